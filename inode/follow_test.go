package inode_test

import (
	"bytes"
	"fmt"
	"slices"
	"testing"

	"slipway/api"
	"slipway/inode"
)

// stream gives numbers that look mixed and are the same in every run.
type stream uint64

func (s *stream) next() uint64 {
	*s = *s*6364136223846793005 + 1442695040888963407
	return uint64(*s >> 33)
}

func (s *stream) below(n int) int { return int(s.next() % uint64(n)) }

// upTo is a number from least to most, now and then one of these.
func (s *stream) upTo(least, most int) int {
	switch s.below(6) {
	case 0:
		return least
	case 1:
		return most
	}
	return least + s.below(most-least+1)
}

// root is up to four extents, or entries, that do not join.
func (s *stream) root(depth int) []api.Extent {
	var l []api.Extent
	from := s.below(3) * s.below(9000)
	for range s.upTo(min(depth, 1), 4) {
		e := api.Extent{Logical: from, Phys: s.upTo(1, 8191)}
		if depth == 0 {
			e.Len = s.upTo(1, min(4096, 8192-e.Phys))
		}
		l = append(l, e)
		from += e.Len + 1 + s.below(2)*s.below(9000)
	}
	return l
}

// inode is one that may be.
func (s *stream) inode() api.Inode {
	x := api.Inode{Kind: s.below(3), Gen: int64(s.upTo(0, 1<<32-1))}
	if x.Kind == 0 {
		return x
	}
	x.Links, x.Next, x.Depth = s.upTo(0, 1000), s.upTo(0, 1<<16), s.below(3)
	x.Size = int64(s.upTo(0, 1<<24))
	if x.Kind == 2 {
		x.Size -= x.Size % 256
	}
	x.Root = s.root(x.Depth)
	return x
}

// bytes are ones of a slot: any, few that are not 0, or an inode's of which some were changed.
func (s *stream) bytes() []byte {
	b := make([]byte, 64)
	sort := s.below(5)
	if sort > 1 {
		b = wire(s.inode())
	}
	turned := []int{64, 3, 0, 1, 2}[sort]
	for range turned {
		b[s.below(64)] ^= byte(1 << s.below(8))
	}
	return b
}

func (s *stream) table() []byte {
	return slotsOf(s.bytes(), s.bytes(), s.bytes(), s.bytes())
}

// What is encoded is decoded as it was.
func TestP144EncodeAndDecode(t *testing.T) {
	var s stream = 1
	kinds := map[string]int{}
	for range 30000 {
		x := s.inode()
		if !mayBe(x) {
			t.Fatal("the test makes what may not be:", named(x))
		}
		kinds[fmt.Sprint(x.Kind, x.Depth, len(x.Root))]++
		b, e := inode.Encode(x)
		is(t, "Encode", e, api.OK)
		is(t, "how many bytes", len(b), 64)
		y, e := inode.Decode(b)
		is(t, "Decode", e, api.OK)
		is(t, "there and back", named(y), named(x))
		is(t, "Same", inode.Same(x, y), true)
		is(t, "Check", inode.Check(y), api.OK)
	}
	// Free ones; files and directories with up to four extents, with one to four entries in each of two depths.
	is(t, "sorts of inodes", len(kinds), 1+2*(5+4+4))
}

// What is decoded has those bytes; what is not decoded is nothing that Encode makes.
func TestP144DecodeAndEncode(t *testing.T) {
	var s stream = 2
	taken, refused := 0, 0
	for range 60000 {
		b := s.bytes()
		want, ok := unwire(b)
		x, e := inode.Decode(b)
		if !ok {
			refused++
			nothing(t, fmt.Sprintf("Decode of % x", b), x, e, api.ErrInode)
			continue
		}
		taken++
		is(t, "Decode", e, api.OK)
		is(t, "Decode", named(x), named(want))
		again, e := inode.Encode(x)
		if e != api.OK || !bytes.Equal(again, b) {
			t.Fatalf("% x is decoded, and encoded as % x, %v", b, again, e)
		}
	}
	if taken < 10000 || refused < 10000 {
		t.Error("too few of one sort:", taken, refused)
	}
}

// Inodes that are not the same have other bytes.
func TestP144Unlike(t *testing.T) {
	var s stream = 3
	seen := map[string]string{}
	for range 20000 {
		x := s.inode()
		b, _ := inode.Encode(x)
		was, twice := seen[string(b)]
		if twice && was != named(x) {
			t.Fatal(was, "and", named(x), "have the same bytes")
		}
		seen[string(b)] = named(x)
	}
}

func TestP144Zeros(t *testing.T) {
	x, e := inode.Decode(make([]byte, 64))
	is(t, "Decode of zeros", e, api.OK)
	is(t, "zeros", inode.Same(x, inode.Free(0)), true)
	is(t, "zeros", named(x), named(api.Inode{}))
	b, e := inode.Encode(inode.Free(0))
	is(t, "Encode", e, api.OK)
	is(t, "the free inode of Gen 0", string(b), string(make([]byte, 64)))
	for slot := range 4 {
		x, e := inode.Get(make([]byte, 256), slot)
		is(t, "Get of zeros", e, api.OK)
		is(t, "Get of zeros", inode.Same(x, inode.Free(0)), true)
	}
	is(t, "All of zeros", told(make([]byte, 256)), "")
	for _, g := range []int64{0, 1, 255, 1 << 31, 1<<32 - 1} {
		there(t, inode.Free(g), wire(api.Inode{Gen: g}))
	}
}

// view is what Get tells in each slot.
func view(table []byte) [4]string {
	var v [4]string
	for slot := range v {
		x, e := inode.Get(table, slot)
		v[slot] = fmt.Sprint(named(x), int(e))
	}
	return v
}

// Rows of Puts on tables in which anything stands: each tells its inode, and in others what it told.
func TestP145PutAndGet(t *testing.T) {
	var s stream = 4
	for range 3000 {
		table := s.table()
		want := view(table)
		for range 8 {
			slot, x := s.below(4), s.inode()
			was := slices.Clone(table)
			now, e := inode.Put(table, slot, x)
			is(t, "Put", e, api.OK)
			is(t, "how many bytes", len(now), 256)
			is(t, "the table that was handed in", string(table), string(was))
			want[slot] = fmt.Sprint(named(x), 0)
			is(t, "behind Put", view(now), want)
			is(t, "All", told(now), ought(now))
			table = now
		}
	}
}

// What was put is there, whatever was put ahead of it; putting it again changes nothing; the order of slots does not count.
func TestP145Orders(t *testing.T) {
	var s stream = 5
	for range 2000 {
		row := []api.Inode{s.inode(), s.inode(), s.inode(), s.inode()}
		rising, falling := s.table(), s.table()
		for slot := range 4 {
			rising, _ = inode.Put(rising, slot, row[slot])
			falling, _ = inode.Put(falling, 3-slot, row[3-slot])
		}
		is(t, "in either order", string(rising), string(falling))
		is(t, "in either order", string(rising), string(slotsOf(wire(row[0]), wire(row[1]), wire(row[2]), wire(row[3]))))
		for slot := range 4 {
			x, e := inode.Get(rising, slot)
			is(t, "Get", e, api.OK)
			again, e := inode.Put(rising, slot, x)
			is(t, "Put", e, api.OK)
			is(t, "again", string(again), string(rising))
		}
	}
}

// A Put that is refused leaves the table as it was.
func TestP145Refused(t *testing.T) {
	var s stream = 6
	for _, x := range wrong() {
		table := s.table()
		was := slices.Clone(table)
		slot := s.below(4)
		b, e := inode.Put(table, slot, x)
		noBytes(t, "Put of "+named(x), b, e, api.ErrInode)
		is(t, "the table", string(table), string(was))
	}
}

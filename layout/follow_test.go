package layout_test

import (
	"bytes"
	"slices"
	"testing"

	"slipway/api"
	"slipway/layout"
)

// stream gives numbers that look mixed and are the same in every run.
type stream uint64

func (s *stream) next() uint64 {
	*s = *s*6364136223846793005 + 1442695040888963407
	return uint64(*s >> 33)
}

func (s *stream) below(n int) int { return int(s.next() % uint64(n)) }

// shape is one that may be.
func (s *stream) shape() api.Shape {
	for {
		blocks := 1 + s.below(8192)
		if s.below(3) == 0 {
			blocks = 1 + s.below(300)
		}
		if x := shape(blocks, 16+s.below(49)); mayBe(x.Blocks, x.Journal) {
			return x
		}
	}
}

// manyShapes are those at the edges, and others.
func manyShapes() []api.Shape {
	l := rightShapes()
	var s stream = 5
	for range 100 {
		l = append(l, s.shape())
	}
	for blocks := 25; blocks <= 144; blocks++ {
		if mayBe(blocks, 16) {
			l = append(l, shape(blocks, 16))
		}
	}
	return l
}

// painted is what each block of a shape is, laid block by block as the chapter says.
func painted(s api.Shape) []int {
	var l []int
	lay := func(kind, many int) { l = append(l, slices.Repeat([]int{kind}, many)...) }
	groups := 0
	for left := s.Blocks; left > 0; left -= 128 {
		groups++
	}
	lay(1, 1)
	lay(2, (16*groups+255)/256)
	for g := range groups {
		lay(3, 1)
		lay(4, 1)
		lay(5, 4)
		if g == 0 {
			lay(6, s.Journal)
		}
		lay(7, min(128*(g+1), s.Blocks)-len(l))
	}
	return l
}

func TestP115EachBlockHasOneUse(t *testing.T) {
	for _, s := range manyShapes() {
		want := painted(s)
		if len(want) != s.Blocks {
			t.Fatal(named(s), len(want))
		}
		data := 0
		for block, kind := range want {
			if got := layout.Kind(s, block); got != kind {
				t.Fatalf("%s: block %d is %d, want %d", named(s), block, got, kind)
			}
			if kind == api.BkData {
				data++
			}
		}
		is(t, "Capacity of "+named(s), layout.Capacity(s), data)
	}
}

// claim marks blocks as those of a kind, and fails if one was marked already.
func claim(t *testing.T, marks []int, kind, from, to int) {
	t.Helper()
	for block := from; block < to; block++ {
		if marks[block] != 0 {
			t.Fatalf("block %d is %d and %d", block, marks[block], kind)
		}
		marks[block] = kind
	}
}

// What Group, Journal and Descs say is what Kind says, and no two of them have one block.
func TestP115AsGroupsSay(t *testing.T) {
	for _, s := range manyShapes() {
		marks := make([]int, s.Blocks)
		claim(t, marks, api.BkSuper, 0, 1)
		claim(t, marks, api.BkDesc, 1, 1+layout.Descs(s))
		claim(t, marks, api.BkLog, layout.Journal(s), layout.Journal(s)+s.Journal)
		for _, g := range layout.All(s) {
			claim(t, marks, api.BkBlocks, g.Map, g.Map+1)
			claim(t, marks, api.BkInodes, g.Inodes, g.Inodes+1)
			claim(t, marks, api.BkTable, g.Table, g.Table+4)
			claim(t, marks, api.BkData, g.Data, g.First+g.Blocks)
		}
		for block, kind := range marks {
			if got := layout.Kind(s, block); got != kind {
				t.Fatalf("%s: block %d is %d, want %d", named(s), block, got, kind)
			}
		}
	}
}

func TestP115GroupsFollowEachOther(t *testing.T) {
	for _, s := range manyShapes() {
		next, many := 0, 0
		for g, what := range layout.All(s) {
			is(t, "All", g, many)
			is(t, "First", what.First, next)
			same, e := layout.Group(s, g)
			is(t, "Group", e, api.OK)
			is(t, "Group", same, what)
			for block := what.First; block < what.First+what.Blocks; block++ {
				if of, ok := layout.GroupOf(s, block); of != g || !ok {
					t.Fatalf("%s: block %d is of %d, %v, want %d", named(s), block, of, ok, g)
				}
			}
			if what.Blocks > 128 || what.Blocks < 16 {
				t.Error(named(s), g, what)
			}
			next += what.Blocks
			many++
		}
		is(t, "all of Blocks", next, s.Blocks)
		is(t, "Groups", layout.Groups(s), many)
	}
}

func TestP116EachInodeHasItsPlace(t *testing.T) {
	for _, s := range manyShapes() {
		taken := map[[2]int]int{}
		most := layout.Inodes(s)
		tables := 0
		for _, kind := range painted(s) {
			if kind == api.BkTable {
				tables++
			}
		}
		is(t, "Inodes of "+named(s), most, 4*tables)
		last := [2]int{}
		for ino := 1; ino <= most; ino++ {
			block, at, e := layout.InodeAt(s, ino)
			place := [2]int{block, at}
			if e != api.OK || at%64 != 0 || at < 0 || at+64 > 256 || layout.Kind(s, block) != api.BkTable {
				t.Fatalf("%s: inode %d: %v, %v", named(s), ino, place, e)
			}
			if other := taken[place]; other != 0 {
				t.Fatalf("%s: inodes %d and %d stand at %v", named(s), other, ino, place)
			}
			if slices.Compare(last[:], place[:]) >= 0 {
				t.Fatalf("%s: inode %d stands ahead of the one before", named(s), ino)
			}
			if g, _ := layout.GroupOf(s, block); g != (ino-1)/16 {
				t.Fatalf("%s: inode %d is in group %d", named(s), ino, g)
			}
			taken[place], last = ino, place
		}
	}
}

// super is one that may be.
func (s *stream) super() api.Super {
	x := s.shape()
	mounts := []int64{0, 1, int64(s.below(1000)), int64(s.next()<<29|s.next()) % (1<<60 + 1), 1<<60 - 1, 1 << 60}[s.below(6)]
	orphan := s.below(layout.Inodes(x) + 1)
	return super(x, orphan, s.below(2) == 0, mounts)
}

func TestP117SuperThereAndBack(t *testing.T) {
	var s stream = 7
	for range 3000 {
		x := s.super()
		b, e := layout.EncodeSuper(x)
		if e != api.OK || len(b) != 256 {
			t.Fatal(x, len(b), e)
		}
		if y, e := layout.DecodeSuper(b); y != x || e != api.OK {
			t.Fatalf("%v came back as %v, %v", x, y, e)
		}
	}
}

// Bytes of fields near what may be: those that are decoded have these bytes, and all others may not be.
func TestP117SuperBytesThereAndBack(t *testing.T) {
	var s stream = 8
	there := 0
	for range 20000 {
		f := fields{magic: 0x534c4950, blocks: uint64(s.below(8300)), journal: uint64(12 + s.below(56)), clean: uint64(s.below(3)), orphan: uint64(s.below(600)), mounts: s.next() << s.below(34)}
		if s.below(50) == 0 {
			f.magic ^= 1 << s.below(32)
		}
		b := f.bytes()
		if !f.mayBe() {
			noSuper(t, "fields", b)
			continue
		}
		there++
		x, e := layout.DecodeSuper(b)
		if e != api.OK || x != f.super() {
			t.Fatalf("%v: %v, %v", f, x, e)
		}
		if again, e := layout.EncodeSuper(x); e != api.OK || !bytes.Equal(again, b) {
			t.Fatalf("%v: %v, %v", f, again, e)
		}
	}
	if there < 1000 {
		t.Error("too few that may be:", there)
	}
}

func (s *stream) descs(many int) []api.Desc {
	l := make([]api.Desc, many)
	count := func() int { return []int{0, 1, 65535, s.below(65536), s.below(200)}[s.below(5)] }
	for i := range l {
		l[i] = api.Desc{Blocks: count(), Inodes: count(), Dirs: count()}
	}
	return l
}

func TestP117DescsThereAndBack(t *testing.T) {
	var s stream = 9
	for range 300 {
		for many := range 17 {
			l := s.descs(many)
			b, e := layout.EncodeDescs(l...)
			if e != api.OK || !bytes.Equal(b, descBytes(l...)) {
				t.Fatal(l, b, e)
			}
			if got, e := layout.DecodeDescs(b, many); e != api.OK || !slices.Equal(got, l) {
				t.Fatalf("%v came back as %v, %v", l, got, e)
			}
		}
	}
}

// Any bytes: those that are decoded have these bytes, and all others have one that must be 0.
func TestP117DescBytesThereAndBack(t *testing.T) {
	var s stream = 10
	for range 5000 {
		n, filled := s.below(17), s.below(17)
		b := make([]byte, 256)
		for i := range filled {
			for at := range 6 {
				b[16*i+at] = byte(s.next() >> 3)
			}
		}
		if s.below(4) == 0 {
			b[s.below(256)] = byte(s.next())
		}
		want := api.OK
		for at, x := range b {
			if x != 0 && (at/16 >= n || at%16 >= 6) {
				want = api.ErrSuper
			}
		}
		l, e := layout.DecodeDescs(b, n)
		if e != want || e == api.OK && len(l) != n || e != api.OK && l != nil {
			t.Fatalf("% x, %d: %v, %v, want %v", b, n, l, e, want)
		}
		if e != api.OK {
			continue
		}
		if again, e := layout.EncodeDescs(l...); e != api.OK || !bytes.Equal(again, b) {
			t.Fatalf("% x, %d: % x, %v", b, n, again, e)
		}
	}
}

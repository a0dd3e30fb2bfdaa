package dirent_test

import (
	"fmt"
	"slices"
	"testing"

	"slipway/api"
	"slipway/dirent"
)

// refused is a block that may not be: nothing is told of it, and no change is made in it.
func refused(t *testing.T, name string, b []byte) {
	t.Helper()
	is(t, "State of "+name, dirent.State(b), api.Errno(160))
	for e := range dirent.Entries(b) {
		t.Fatalf("Entries of %s tell %+v", name, e)
	}
	is(t, "Room of "+name, dirent.Room(b), 0)
	for _, s := range []string{"", "a", "b", "new", long(48), long(49)} {
		e, ok := dirent.Find(b, s)
		is(t, "Find in "+name, e, api.Entry{})
		is(t, "Find in "+name, ok, false)
		now, err := dirent.Remove(b, s)
		answered(t, "Remove in "+name, now, err, nil, 160)
	}
	for _, e := range []api.Entry{file("a", 1), dir("new", 7), file(long(48), 1<<20)} {
		now, err := dirent.Add(b, e)
		answered(t, "Add in "+name, now, err, nil, 160)
		now, err = dirent.Turn(b, e)
		answered(t, "Turn in "+name, now, err, nil, 160)
	}
}

// taken is a block that may be.
func taken(t *testing.T, name string, b []byte) {
	t.Helper()
	is(t, "State of "+name, dirent.State(b), api.OK)
	view(t, b)
}

func TestP161StateOfLengths(t *testing.T) {
	refused(t, "nil", nil)
	refused(t, "no bytes", []byte{})
	refused(t, "zeros", make([]byte, 256))
	whole := laid(0, has(12, file("a", 2)), has(244, dir("b", 3)))
	taken(t, "a whole block", whole)
	for n := range 256 {
		refused(t, fmt.Sprint(n, " bytes of one"), whole[:n])
		refused(t, fmt.Sprint(n, " bytes of Empty"), dirent.Empty()[:n])
	}
	for _, n := range []int{1, 4, 8, 256, 3840} {
		refused(t, fmt.Sprint(n, " bytes more"), append(slices.Clone(whole), make([]byte, n)...))
		refused(t, fmt.Sprint(n, " bytes more, as a record"), append(slices.Clone(whole), laid(0, none(n))...))
	}
	// Also one whose records fill it, but that it isn't as long as a block.
	refused(t, "a short one", laid(0, has(12, file("a", 2)), none(240)))
	refused(t, "a long one", laid(0, has(12, file("a", 2)), none(248)))
	refused(t, "two blocks", slices.Concat(whole, dirent.Empty()))
}

// goodBlocks are blocks that may be, of the calls and of others.
func goodBlocks(t *testing.T) [][]byte {
	t.Helper()
	names := rightNames()
	l := [][]byte{
		dirent.Empty(),
		made(t, file("a", 2)),
		made(t, file("a", 2), dir("bb", 3), file("a longer name", 0x010203)),
		made(t, dir(long(48), 1<<20), file(long(47), 1)),
		made(t, file(names[2], 1), file(names[3], 2), file(names[12], 3), file(names[13], 4), dir(names[14], 5)),
		laid(0xff, has(12, file("a", 2)), none(8), none(12), has(24, dir("b", 3)), none(8), has(192, file("c", 4))),
		laid(0x2f, none(8), has(56, file(long(48), 9)), has(180, file(long(47), 9)), none(12)),
		laid(0x61, none(128), none(128)),
		slices.Concat(slices.Repeat(laid(0, none(8)), 31), laid(0, none(8))),
	}
	return append(l, filled(t, 1), filled(t, 48))
}

// filled is a block with as many names of n bytes as have room.
func filled(t *testing.T, n int) []byte {
	t.Helper()
	var l []api.Entry
	for i := range 256 / needs(n) {
		l = append(l, api.Entry{Name: string(rune('A'+i)) + long(n)[1:], Inode: 1 + i*1000, Kind: 1 + i%2})
	}
	return made(t, l...)
}

// Each byte turned into each other, of blocks of many kinds: held against what is read without the program's help.
func TestP161StateOfTurnedBytes(t *testing.T) {
	t.Parallel()
	for n, b := range goodBlocks(t) {
		taken(t, fmt.Sprint("block ", n), b)
		wrong := 0
		for at := range b {
			for c := range 256 {
				now := patched(b, at, byte(c))
				_, ok := read(now)
				if (dirent.State(now) == api.OK) != ok {
					t.Fatalf("State of % x: %v", now, dirent.State(now))
				}
				if !ok {
					wrong++
				}
			}
		}
		if wrong < 1000 {
			t.Error("block", n, "has only", wrong, "turned bytes that are wrong")
		}
		for at := range b {
			view(t, patched(b, at, b[at]^1))
			view(t, patched(b, at, ^b[at]))
		}
	}
}

// Each length of a block's one record, and of the first of two.
func TestP161StateOfRecordLengths(t *testing.T) {
	for length := range 1 << 16 {
		for _, b := range [][]byte{dirent.Empty(), laid(0, has(256, file("a", 2)))} {
			if got := dirent.State(patched(b, 4, byte(length>>8), byte(length))); (got == api.OK) != (length == 256) {
				t.Fatal("State with one record of", length, ":", got)
			}
		}
	}
	for n := range 50 {
		for length := range 256 {
			first := has(length, file(long(n), 7))
			if n == 0 {
				first = none(length)
			}
			// The first record is laid last, so that it is there also where it is too short.
			b := patched(make([]byte, 256), length, wire(none(256-length))...)
			b = patched(b, 0, wire(first)...)
			if length < 8+n || 256-length < 8 {
				refused(t, fmt.Sprint("a record of ", length, " with a name of ", n), b)
				continue
			}
			want := api.ErrDir
			if length%4 == 0 && n <= 48 {
				want = api.OK
			}
			is(t, fmt.Sprint("State of a record of ", length, " with a name of ", n), dirent.State(b), want)
		}
	}
}

// A length between the need's bytes and the need rounded up, where all else is right.
func TestP161StateOfNeeds(t *testing.T) {
	for n := 1; n <= 48; n++ {
		b := laid(0, has(needs(n), file(long(n), 7)), none(256-needs(n)))
		taken(t, fmt.Sprint("just the need of ", n), b)
		less := slices.Concat(laid(0, has(needs(n), file(long(n), 7)))[:needs(n)-4], laid(0, none(260-needs(n))))
		refused(t, fmt.Sprint("4 less than the need of ", n), patched(less, 5, byte(needs(n)-4)))
		more := laid(0, has(needs(n)+4, file(long(n), 7)), none(252-needs(n)))
		taken(t, fmt.Sprint("4 more than the need of ", n), more)
	}
}

// Records that end short of the block, or beyond it.
func TestP161StateOfEnds(t *testing.T) {
	for _, first := range [][]rec{{has(12, file("a", 2))}, {none(8)}, {has(56, file(long(48), 2)), none(8), has(20, dir("b", 3))}} {
		ahead := laid(0xee, first...)
		for _, last := range []rec{none(0), has(0, file("z", 9)), has(0, dir("Z"+long(47), 9))} {
			for length := range 300 {
				last.length = length
				b := patched(make([]byte, 256), 0, append(slices.Clone(ahead), wire(last)...)...)
				if length == 256-len(ahead) {
					taken(t, "one that ends there", b)
				} else {
					refused(t, fmt.Sprint("one that ends at ", len(ahead)+length), b)
				}
			}
		}
	}
	// Only four bytes are left, or none of a name has room in what is left.
	refused(t, "four bytes left", laid(0, none(252), none(4)))
	refused(t, "eight bytes left for a name", laid(0, none(248), has(8, file("a", 1))))
	refused(t, "twelve bytes left for a name of five", laid(0, none(244), has(12, file(long(5), 1))))
	for _, n := range []byte{1, 48, 49, 240, 241, 248, 249, 255} {
		refused(t, "a name beyond the block", patched(dirent.Empty(), 0, 0, 0, 0, 2, 1, 0, n, 1))
		refused(t, "a name beyond the block, at its end", patched(laid(0, none(248), none(8)), 248, 0, 0, 0, 2, 0, 8, n, 1))
	}
	taken(t, "one that fills the block", laid(0, none(244), has(12, file(long(4), 1))))
	taken(t, "eight bytes left for none", laid(0, none(248), none(8)))
}

func TestP161StateWithoutEntry(t *testing.T) {
	for _, ahead := range [][]rec{nil, {has(12, file("a", 2))}, {none(100)}} {
		at := len(laid(0, ahead...))
		b := laid('x', append(slices.Clone(ahead), none(256-at))...)
		taken(t, "one without an entry", b)
		for c := 1; c < 256; c++ {
			refused(t, fmt.Sprint("a name's length of ", c), patched(b, at+6, byte(c)))
			refused(t, fmt.Sprint("a Kind of ", c), patched(b, at+7, byte(c)))
			refused(t, fmt.Sprint("both ", c), patched(b, at+6, byte(c), byte(c)))
		}
	}
}

func TestP161StateOfWrongEntries(t *testing.T) {
	for _, ahead := range [][]rec{nil, {has(12, file("a", 2))}, {none(8), has(20, dir("b", 3))}} {
		at := len(laid(0, ahead...))
		with := func(e api.Entry) []byte { return laid(0, append(slices.Clone(ahead), has(256-at, e))...) }
		for _, s := range wrongNames() {
			refused(t, fmt.Sprintf("one with %q", s), with(file(s, 5)))
		}
		for _, s := range rightNames() {
			if s != "a" && s != "b" {
				taken(t, fmt.Sprintf("one with %q", s), with(file(s, 5)))
			}
		}
		for _, inode := range []int{1<<20 + 1, 1 << 21, 1 << 24, 1<<31 - 1, 1 << 31, 1<<31 + 1, 1<<32 - 1} {
			refused(t, fmt.Sprint("one of inode ", inode), with(file("n", inode)))
		}
		for _, inode := range []int{1, 255, 256, 1<<20 - 1, 1 << 20} {
			taken(t, fmt.Sprint("one of inode ", inode), with(file("n", inode)))
		}
		for kind := range 256 {
			b := with(api.Entry{Name: "n", Inode: 3, Kind: kind})
			is(t, fmt.Sprint("State with Kind ", kind), dirent.State(b) == api.OK, kind == 1 || kind == 2)
		}
	}
}

func TestP161StateOfTwoOfOneName(t *testing.T) {
	for _, s := range []string{"a", "...", "\xff", long(4), long(48)} {
		n := needs(len(s))
		for _, other := range []api.Entry{file(s, 2), dir(s, 2), file(s, 3)} {
			refused(t, "two side by side", laid(0, has(n, file(s, 2)), has(256-n, other)))
			refused(t, "two with unlike lengths", laid(0, has(n+20, file(s, 2)), has(236-n, other)))
			refused(t, "two at both ends", laid(0, has(n, file(s, 2)), has(12, file("b", 7)), none(8), has(20, dir("c", 2)), none(104-n), has(112, other)))
			refused(t, "two behind one without", laid(0, none(8), has(n, file(s, 2)), none(20), has(228-n, other)))
		}
		// One name alone may be often, where it is no entry's.
		taken(t, "one without an entry, with its name behind", patched(laid(0, has(n, file(s, 2)), none(256-n)), n+8, []byte(s)...))
		taken(t, "two that are unlike at the end", laid(0, has(100, file(s[:len(s)-1]+"y", 2)), has(156, file(s[:len(s)-1]+"z", 2))))
		taken(t, "one that the other begins with", laid(0, has(100, file(long(47), 2)), has(156, file(long(46), 2))))
	}
	taken(t, "two of one inode", laid(0, has(128, file("a", 2)), has(128, file("A", 2))))
	for i := range 21 {
		full := filled(t, 1)
		for j := range 21 {
			if i != j {
				now := patched(full, 12*j+8, full[12*i+8])
				refused(t, fmt.Sprint("the names ", i, " and ", j), now)
			}
		}
	}
}

// What stands behind names counts for nothing.
func TestP161StateOfBytesBehind(t *testing.T) {
	records := []rec{none(32), has(60, file("a", 2)), has(12, dir(long(3), 3)), has(20, file(long(5), 4)), none(8), has(60, file(long(48), 5)), has(64, dir("...", 6))}
	zeros := laid(0, records...)
	taken(t, "with zeros behind", zeros)
	for c := range 256 {
		b := laid(byte(c), records...)
		taken(t, fmt.Sprint("with ", c, " behind"), b)
		sameEntries(t, "Entries", b, entriesOf(zeros))
		is(t, "Room", dirent.Room(b), dirent.Room(zeros))
	}
	var s stream = 16
	for range 300 {
		b, at := slices.Clone(zeros), 0
		for _, r := range records {
			for i := 8 + len(r.Name); i < r.length; i++ {
				b[at+i] = byte(s.next())
			}
			at += r.length
		}
		taken(t, "with drawn bytes behind", b)
		sameEntries(t, "Entries", b, entriesOf(zeros))
	}
}

func TestP161StateOfDrawnBlocks(t *testing.T) {
	t.Parallel()
	var s stream = 17
	good := 0
	for range 30000 {
		b := s.block()
		_, ok := read(b)
		if ok {
			good++
		}
		view(t, b)
	}
	if good < 3000 || good > 27000 {
		t.Error("of 30000 blocks", good, "may be")
	}
}

// block is a block whose records fill it, where now and then a byte is turned.
func (s *stream) block() []byte {
	var b []byte
	for len(b) < 256 {
		length := min(8+4*s.below(20), 256-len(b))
		if 256-len(b)-length < 8 {
			length = 256 - len(b)
		}
		r := none(length)
		if length > 8 && s.below(3) > 0 {
			r.Entry = s.entry(min(48, length-8))
		}
		b = append(b, laid(byte(s.next()), r)...)
	}
	for s.below(3) > 0 {
		b[s.below(256)] = byte(s.next())
	}
	return b
}

// entry is an entry that may be, with a name of up to so many bytes: short ones are there often.
func (s *stream) entry(most int) api.Entry {
	name := make([]byte, 1+s.below(most))
	for i := range name {
		name[i] = "abcdefgh"[s.below(8)]
	}
	return api.Entry{Name: string(name), Inode: 1 + s.below(1<<20), Kind: 1 + s.below(2)}
}

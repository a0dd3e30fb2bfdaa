package dirent_test

import (
	"fmt"
	"slices"
	"strings"
	"testing"

	"slipway/api"
	"slipway/dirent"
)

// add is a block with entries more.
func add(t *testing.T, b []byte, l ...api.Entry) []byte {
	t.Helper()
	for _, e := range l {
		now, err := dirent.Add(b, e)
		is(t, fmt.Sprintf("Add of %+v", e), err, api.OK)
		view(t, now)
		b = now
	}
	return b
}

// remove is a block without the entries of some names.
func remove(t *testing.T, b []byte, names ...string) []byte {
	t.Helper()
	for _, s := range names {
		now, err := dirent.Remove(b, s)
		is(t, "Remove of "+s, err, api.OK)
		view(t, now)
		b = now
	}
	return b
}

func TestP163AddBytes(t *testing.T) {
	b := dirent.Empty()
	sameBytes(t, "Add to Empty", add(t, b, file("a", 2)), laid(0, has(256, file("a", 2))))
	b = add(t, b, file("a", 2), dir("bb", 3))
	sameBytes(t, "Add of a second", b, laid(0, has(12, file("a", 2)), has(244, dir("bb", 3))))
	b = add(t, b, file("a longer name", 0x010203))
	sameBytes(t, "Add of a third", b, laid(0, has(12, file("a", 2)), has(12, dir("bb", 3)), has(232, file("a longer name", 0x010203))))
	b = add(t, b, dir("\xff\x80\x01\x7f", 1<<20))
	sameBytes(t, "Add of a fourth", b, laid(0, has(12, file("a", 2)), has(12, dir("bb", 3)), has(24, file("a longer name", 0x010203)), has(208, dir("\xff\x80\x01\x7f", 1<<20))))
	is(t, "the fourth", fmt.Sprintf("% x", b[48:61]), "00 10 00 00 00 d0 04 02 ff 80 01 7f 00")
}

// The first record that has room takes it, also where others have more, or just enough.
func TestP163AddToTheFirstThatHasRoom(t *testing.T) {
	five := file("fives", 77) // It needs 16.
	records := []rec{none(12), has(24, dir("b", 3)), has(32, file("cc", 4)), none(8), none(16), none(40), has(124, file("d", 5))}
	for c := range 256 {
		b := laid(byte(c), records...)
		got := add(t, b, five)
		// none(12) is too short; b can spare 12; cc can spare 20.
		want := slices.Clone(b)
		copy(want[36:], wire(has(12, file("cc", 4))))
		copy(want[48:], wire(has(20, five)))
		sameBytes(t, "into what cc can spare", got, want)
		// Behind it stands no room for another one, and the records without an entry are next.
		got, b = add(t, got, file("sixty", 78)), got
		want = slices.Clone(b)
		copy(want[76:], wire(has(16, file("sixty", 78))))
		sameBytes(t, "into the record of 16", got, want)
		got, b = add(t, got, file("seven", 79)), got
		want = slices.Clone(b)
		copy(want[92:], wire(has(40, file("seven", 79))))
		sameBytes(t, "into the record of 40, whose length stays", got, want)
		got, b = add(t, got, file("eight", 80)), got
		want = slices.Clone(b)
		copy(want[92:], wire(has(16, file("seven", 79))))
		copy(want[108:], wire(has(24, file("eight", 80))))
		sameBytes(t, "behind seven", got, want)
		got, b = add(t, got, file("x", 81)), got
		want = slices.Clone(b)
		copy(want, wire(has(12, file("x", 81))))
		sameBytes(t, "a short one into the first", got, want)
		got, b = add(t, got, file("y", 82)), got
		want = slices.Clone(b)
		copy(want[12:], wire(has(12, dir("b", 3))))
		copy(want[24:], wire(has(12, file("y", 82))))
		sameBytes(t, "a short one behind b", got, want)
	}
}

// Each length of a record against each length of a name, without an entry and with one of each length.
func TestP163AddEdges(t *testing.T) {
	t.Parallel()
	for n := 1; n <= 48; n++ {
		e := dir("Z"+long(n)[1:], 1<<20)
		for length := 8; length <= 248; length += 4 {
			changes(t, laid(0x5a, none(length), none(256-length)), e)
			if length <= 228 {
				changes(t, laid(0x5a, none(8), has(12, file("q", 5)), none(length), none(236-length)), e)
			}
			for own := 1; own <= 48; own += 1 + length%3 {
				if needs(own) <= length {
					changes(t, laid(0x5a, has(length, file(long(own), 6)), none(256-length)), e)
				}
			}
		}
	}
}

func TestP163AddUpToFull(t *testing.T) {
	for n := 1; n <= 48; n++ {
		b, many := dirent.Empty(), 0
		for {
			e := api.Entry{Name: string(rune('A'+many)) + long(n)[1:], Inode: 1 + many, Kind: 1 + many%2}
			changes(t, b, e)
			now, err := dirent.Add(b, e)
			if err != api.OK {
				is(t, "Add to a full one", err, api.ErrFull)
				break
			}
			b = now
			many++
		}
		is(t, fmt.Sprint("names of ", n), many, 256/needs(n))
		if n <= 4 {
			is(t, "Room of a full one", dirent.Room(b), 0)
			is(t, "names of 1", many, 21)
		}
		// A shorter name may have room still.
		if room := dirent.Room(b); room > 0 {
			add(t, b, file("Z"+long(room)[1:], 1))
		}
	}
	full := add(t, filled(t, 48), file("z"+long(24)[1:], 9))
	is(t, "Room", dirent.Room(full), 0)
	changes(t, full, file("Q", 1))
}

func TestP163AddErrors(t *testing.T) {
	full := filled(t, 1) // With A, B and so on.
	bad := patched(full, 7, 3)
	short := full[:255]
	for _, x := range []struct {
		name string
		b    []byte
		e    api.Entry
		want api.Errno
	}{
		{"a name that may not be", dirent.Empty(), file("a/b", 1), 161},
		{"a name that is too long", dirent.Empty(), file(long(49), 1), 161},
		{"an inode that may not be", dirent.Empty(), file("a", 0), 162},
		{"a Kind that may not be", dirent.Empty(), api.Entry{Name: "a", Inode: 1}, 162},
		{"no block", nil, file("a", 1), 160},
		{"a wrong block", bad, file("a", 1), 160},
		{"a name that is there", made(t, file("a", 1)), file("a", 1), 5},
		{"a name that is another's", made(t, file("a", 1)), dir("a", 2), 5},
		{"no room", full, file("a", 1), 6},
		{"the name ahead of all else", bad, api.Entry{Name: "..", Inode: -1, Kind: 9}, 161},
		{"the name ahead of the block", short, file("", 1), 161},
		{"the entry ahead of the block", short, file("a", 1<<20+1), 162},
		{"the entry ahead of a name that is there", full, api.Entry{Name: "A", Inode: 1, Kind: 3}, 162},
		{"the entry ahead of no room", full, api.Entry{Name: "a", Inode: 1, Kind: 255}, 162},
		{"the block ahead of a name that is there", bad, file("B", 1), 160},
		{"the name that is there ahead of no room", full, file("U", 1), 5},
		{"no room for a long name", filled(t, 48), file(long(48), 1), 6},
	} {
		was := slices.Clone(x.b)
		now, e := dirent.Add(x.b, x.e)
		answered(t, x.name, now, e, nil, x.want)
		is(t, x.name+": the block", string(x.b), string(was))
		want, wanted := added(x.b, x.e)
		answered(t, x.name, want, wanted, nil, x.want)
	}
}

func TestP163RemoveBytes(t *testing.T) {
	for c := range 256 {
		records := []rec{has(24, file("first", 1)), has(12, dir("b", 2)), has(60, file(long(48), 3)), has(100, dir("d", 4)), has(60, file("last", 5))}
		b := laid(byte(c), records...)
		// The first one: only inode, name's length and Kind are 0.
		sameBytes(t, "the first", remove(t, b, "first"), patched(b, 0, 0, 0, 0, 0, 0, 24, 0, 0))
		// Others: only the length of the one ahead.
		sameBytes(t, "the second", remove(t, b, "b"), patched(b, 4, 0, 36))
		sameBytes(t, "a middle one", remove(t, b, long(48)), patched(b, 24+4, 0, 72))
		sameBytes(t, "the fourth", remove(t, b, "d"), patched(b, 36+4, 0, 160))
		sameBytes(t, "the last", remove(t, b, "last"), patched(b, 96+4, 0, 160))
	}
	b := laid(0xee, has(256, file("alone", 1)))
	sameBytes(t, "the only one", remove(t, b, "alone"), patched(b, 0, 0, 0, 0, 0, 1, 0, 0, 0))
}

// One whose record is ahead of it without an entry gives its length to that one.
func TestP163RemoveBehindNone(t *testing.T) {
	b := laid('x', none(12), has(12, file("a", 1)), none(8), has(224, dir("b", 2)))
	sameBytes(t, "behind the first", remove(t, b, "a"), patched(b, 4, 0, 24))
	sameBytes(t, "behind a middle one", remove(t, b, "b"), patched(b, 24+4, 0, 232))
	// The first one has no entry and is given none by it.
	now := remove(t, b, "a", "b")
	sameBytes(t, "both", now, patched(patched(b, 4, 0, 24), 28, 0, 232))
	is(t, "Room", dirent.Room(now), 48)
	// A length beyond a byte.
	b = laid('x', none(128), has(128, file("a", 1)))
	sameBytes(t, "the whole block", remove(t, b, "a"), patched(b, 4, 1, 0))
}

func TestP163AddBehindRemove(t *testing.T) {
	b := made(t, file("a", 1), dir("bbbb", 2), file("c", 3), dir("d", 4))
	// What was removed gave its bytes to the one ahead: the new one stands there again, over what it left.
	got := add(t, remove(t, b, "bbbb"), file("x", 9))
	sameBytes(t, "a middle one", got, patched(b, 12, 0, 0, 0, 9, 0, 12, 1, 1, 'x', 'b', 'b', 'b'))
	got = add(t, remove(t, b, "a"), dir("y", 9))
	sameBytes(t, "the first one", got, patched(b, 0, 0, 0, 0, 9, 0, 12, 1, 2, 'y', 0, 0, 0))
	got = add(t, remove(t, b, "d"), file("zz", 9))
	sameBytes(t, "the last one", got, patched(b, 36, 0, 0, 0, 9, 0, 220, 2, 1, 'z', 'z', 0, 0))
	// Two that are gone side by side have room together.
	got = remove(t, b, "bbbb", "c")
	sameBytes(t, "two", got, patched(b, 4, 0, 36))
	got = add(t, got, dir(long(16), 0x0fffe))
	sameEntries(t, "Entries", got, []api.Entry{file("a", 1), dir(long(16), 0x0fffe), dir("d", 4)})
	want := slices.Clone(b)
	copy(want[12:], wire(has(24, dir(long(16), 0x0fffe))))
	sameBytes(t, "over two", got, want)
}

func TestP163RemoveErrors(t *testing.T) {
	b := made(t, file("a", 1), dir("bb", 2))
	for _, s := range append(wrongNames(), "b", "bbb", "A", "aa", "\xff", "a\x00", "bb/") {
		now, e := dirent.Remove(b, s)
		answered(t, fmt.Sprintf("Remove of %q", s), now, e, nil, 4)
		for _, wrong := range [][]byte{nil, b[:255], make([]byte, 256), patched(b, 7, 0)} {
			now, e = dirent.Remove(wrong, s)
			answered(t, fmt.Sprintf("Remove of %q of a wrong block", s), now, e, nil, 160)
		}
		now, e = dirent.Remove(dirent.Empty(), s)
		answered(t, fmt.Sprintf("Remove of %q of Empty", s), now, e, nil, 4)
	}
	now, e := dirent.Remove(patched(b, 7, 0), "a")
	answered(t, "a name that is there, of a wrong block", now, e, nil, 160)
	now, e = dirent.Remove(remove(t, b, "a"), "a")
	answered(t, "twice", now, e, nil, 4)
	now, e = dirent.Remove(remove(t, b, "bb"), "bb")
	answered(t, "twice", now, e, nil, 4)
}

func TestP163Turn(t *testing.T) {
	records := []rec{none(8), has(24, file("a", 1)), has(60, dir(long(48), 0x0fffff)), has(12, file("bbb", 3)), has(152, dir("d", 4))}
	at := []int{0, 8, 32, 92, 104}
	for c := range 256 {
		b := laid(byte(c), records...)
		for i, r := range records[1:] {
			for _, e := range []api.Entry{file(r.Name, 0x0a0b0c), dir(r.Name, 0x0a0b0c), file(r.Name, 1), dir(r.Name, 1<<20), r.Entry} {
				got, err := dirent.Turn(b, e)
				want := patched(b, at[i+1], 0, byte(e.Inode>>16), byte(e.Inode>>8), byte(e.Inode))
				want = patched(want, at[i+1]+7, byte(e.Kind))
				answered(t, fmt.Sprintf("Turn of %+v", e), got, err, want, 0)
				found, ok := dirent.Find(got, e.Name)
				is(t, "Find", found, e)
				is(t, "Find", ok, true)
				is(t, "Room", dirent.Room(got), dirent.Room(b))
			}
		}
	}
}

func TestP163TurnErrors(t *testing.T) {
	b := made(t, file("a", 1), dir("bb", 2))
	bad := patched(b, 7, 0)
	for _, x := range []struct {
		name string
		b    []byte
		e    api.Entry
		want api.Errno
	}{
		{"a name that may not be", b, file("..", 1), 161},
		{"a name that is too long", b, file(long(49), 1), 161},
		{"an inode that may not be", b, file("a", 0), 162},
		{"an inode that is too great", b, file("a", 1<<20+1), 162},
		{"a Kind that may not be", b, api.Entry{Name: "a", Inode: 5, Kind: 3}, 162},
		{"a Kind of 0", b, api.Entry{Name: "a", Inode: 5}, 162},
		{"no block", nil, file("a", 1), 160},
		{"a wrong block", bad, file("bb", 1), 160},
		{"a name that is not there", b, file("b", 1), 4},
		{"a name that begins as one", b, file("aa", 1), 4},
		{"nothing there", dirent.Empty(), file("a", 1), 4},
		{"the name ahead of all else", bad, api.Entry{Name: "", Inode: -1, Kind: 9}, 161},
		{"the entry ahead of the block", bad, file("a", -1), 162},
		{"the entry ahead of no such name", b, file("c", -1), 162},
		{"the block ahead of no such name", bad, file("c", 1), 160},
	} {
		now, e := dirent.Turn(x.b, x.e)
		answered(t, x.name, now, e, nil, x.want)
	}
}

// All changes of drawn blocks, held against bytes that are laid without the program's help.
func TestP163OfDrawnBlocks(t *testing.T) {
	t.Parallel()
	var s stream = 19
	for range 6000 {
		b := s.block()
		changes(t, b, s.entry(48))
		changes(t, b, s.entry(3))
		for _, e := range entriesOf(b) {
			changes(t, b, api.Entry{Name: e.Name, Inode: 1 + s.below(1<<20), Kind: 1 + s.below(2)})
		}
		wrong := s.entry(3)
		wrong.Inode, wrong.Kind = oddNumbers[s.below(len(oddNumbers))], oddNumbers[s.below(len(oddNumbers))]
		changes(t, b, wrong)
		changes(t, b, file(wrongNames()[s.below(30)], 1+s.below(9)))
	}
}

func TestP163Make(t *testing.T) {
	for _, l := range [][]api.Entry{nil, {}} {
		b, e := dirent.Make(l...)
		answered(t, "Make of none", b, e, dirent.Empty(), 0)
	}
	b, e := dirent.Make(dir("one", 5))
	answered(t, "Make of one", b, e, laid(0, has(256, dir("one", 5))), 0)
	b, e = dirent.Make(dir("one", 5), file(long(48), 1<<20), file("\xff", 0x0102))
	answered(t, "Make of three", b, e, laid(0, has(12, dir("one", 5)), has(56, file(long(48), 1<<20)), has(188, file("\xff", 0x0102))), 0)
	var l []api.Entry
	var records []rec
	for i := range 21 {
		l = append(l, file(string(rune('a'+i)), 1+i))
		records = append(records, has(12, l[i]))
	}
	records[20].length = 16
	b, e = dirent.Make(l...)
	answered(t, "Make of 21", b, e, laid(0, records...), 0)
	b, e = dirent.Make(append(slices.Clone(l), file("v", 1))...)
	answered(t, "Make of one too many", b, e, nil, 6)
	b, e = dirent.Make(file(long(48), 1), file(long(47), 2), file(long(46), 3), file(long(45), 4), file(long(24), 5))
	answered(t, "Make of long ones", b, e, laid(0, has(56, file(long(48), 1)), has(56, file(long(47), 2)), has(56, file(long(46), 3)), has(56, file(long(45), 4)), has(32, file(long(24), 5))), 0)
	b, e = dirent.Make(file(long(48), 1), file(long(47), 2), file(long(46), 3), file(long(45), 4), file(long(25), 5))
	answered(t, "Make of long ones, too many", b, e, nil, 6)
}

// The first error is told, whatever comes behind it.
func TestP163MakeErrors(t *testing.T) {
	a, b, again := file("a", 1), dir("b", 2), dir("a", 3)
	name, entry := file("x/y", 1), file("x", 0)
	big := func(n int) api.Entry { return file(strings.Repeat(string(rune('p'+n)), 48), 1) }
	for _, x := range []struct {
		l    []api.Entry
		want api.Errno
	}{
		{[]api.Entry{{}}, 161},
		{[]api.Entry{a, again}, 5},
		{[]api.Entry{a, a}, 5},
		{[]api.Entry{a, b, name, file("c", 1)}, 161},
		{[]api.Entry{a, b, entry, file("c", 1)}, 162},
		{[]api.Entry{a, entry, name}, 162},
		{[]api.Entry{a, name, entry}, 161},
		{[]api.Entry{a, again, name}, 5},
		{[]api.Entry{a, entry, again}, 162},
		{[]api.Entry{name, a, a}, 161},
		{[]api.Entry{big(0), big(1), big(2), big(3), big(4), name}, 6},
		{[]api.Entry{big(0), big(1), big(2), big(3), name, big(4)}, 161},
		{[]api.Entry{big(0), big(1), big(2), big(3), big(0), big(4)}, 5},
		{[]api.Entry{big(0), big(1), big(2), big(3), big(4), a}, 6},
	} {
		now, e := dirent.Make(x.l...)
		answered(t, fmt.Sprint("Make of ", x.l), now, e, nil, x.want)
	}
	// Make is Add of each, one behind the other.
	var s stream = 20
	for range 2000 {
		want, wanted := dirent.Empty(), api.OK
		var l []api.Entry
		for range s.below(25) {
			e := s.entry(1 + s.below(12))
			if s.below(60) == 0 {
				e.Kind = 0
			}
			l = append(l, e)
			if wanted == api.OK {
				want, wanted = added(want, e)
			}
		}
		now, e := dirent.Make(l...)
		answered(t, fmt.Sprint("Make of ", l), now, e, want, wanted)
	}
}

package dirent_test

import (
	"fmt"
	"slices"
	"testing"

	"slipway/api"
	"slipway/dirent"
)

func TestP162Entries(t *testing.T) {
	b := laid(0xff, none(8), has(24, dir("z", 3)), none(16), has(60, file(long(48), 1<<20)), has(12, file("a", 1)), has(12, dir("\xff\xfe", 255)), has(124, file("m", 256)))
	want := []api.Entry{dir("z", 3), file(long(48), 1<<20), file("a", 1), dir("\xff\xfe", 255), file("m", 256)}
	if got := slices.Collect(dirent.Entries(b)); !slices.Equal(got, want) {
		t.Error("Entries", got)
	}
	for e := range dirent.Entries(dirent.Empty()) {
		t.Error("Entries of Empty", e)
	}
	for e := range dirent.Entries(laid(0x61, none(128), none(128))) {
		t.Error("Entries of two records without one", e)
	}
}

// The one that is wrong may be the last: nothing is told of those ahead of it.
func TestP162OfRefused(t *testing.T) {
	b := laid(0, has(100, file("a", 1)), has(100, file("b", 2)), has(56, file("c", 3)))
	taken(t, "three", b)
	for _, now := range [][]byte{patched(b, 208, 'a'), patched(b, 207, 3), patched(b, 207, 0), patched(b, 205, 55), patched(b, 205, 52), patched(b, 203, 0), patched(b, 206, 49), patched(b, 208, '/'), b[:255], append(slices.Clone(b), 0)} {
		refused(t, "one with a wrong end", now)
	}
	for _, l := range [][]byte{nil, {}, make([]byte, 256), make([]byte, 4096)} {
		refused(t, "zeros", l)
	}
}

func TestP162EntriesLeftAndTwice(t *testing.T) {
	for _, b := range [][]byte{filled(t, 1), filled(t, 48), laid(0, none(8), has(128, file("a", 1)), none(8), has(112, file("b", 1))), dirent.Empty()} {
		want := entriesOf(b)
		all := dirent.Entries(b)
		for most := range len(want) + 2 {
			var got []api.Entry
			for e := range all {
				if len(got) == most {
					break
				}
				got = append(got, e)
			}
			is(t, "left early", fmt.Sprint(got), fmt.Sprint(want[:min(most, len(want))]))
		}
		// One within the other.
		n := 0
		for range all {
			for range all {
				n++
			}
		}
		is(t, "pairs", n, len(want)*len(want))
	}
}

func TestP162Find(t *testing.T) {
	l := []api.Entry{file("name", 1), dir("nam", 2), file("names", 3), dir("n", 4), file("Name", 5), dir("\xff", 6), file("...", 7), dir(long(48), 8), file(long(47), 9)}
	b := made(t, l...)
	for _, e := range l {
		got, ok := dirent.Find(b, e.Name)
		is(t, "Find of "+e.Name, got, e)
		is(t, "Find of "+e.Name, ok, true)
	}
	missing := append(wrongNames(), "na", "namE", "name ", "namesake", "N", "NAME", "ame", "\xfe", "\xff\xff", "....", long(46), long(49), long(48)+"\x00", "name\x00", "name/", "\x00name")
	for _, s := range missing {
		for _, now := range [][]byte{b, dirent.Empty(), laid('a', none(256))} {
			e, ok := dirent.Find(now, s)
			is(t, fmt.Sprintf("Find of %q", s), e, api.Entry{})
			is(t, fmt.Sprintf("Find of %q", s), ok, false)
		}
	}
}

// What stood in a record that has gone is not found, though its bytes are there.
func TestP162FindOfWhatIsGone(t *testing.T) {
	b := laid(0, none(12), has(244, file("b", 2)))
	copy(b[8:], "a")
	copy(b[12+12:], wire(has(232, file("c", 3))))
	for _, s := range []string{"a", "c"} {
		_, ok := dirent.Find(b, s)
		is(t, "Find of "+s, ok, false)
	}
	sameEntries(t, "Entries", b, []api.Entry{file("b", 2)})
}

func TestP162RoomOfEmpty(t *testing.T) {
	is(t, "Empty", dirent.Room(dirent.Empty()), 48)
	for n := 1; n <= 48; n++ {
		is(t, "one entry", dirent.Room(made(t, file(long(n), 1))), 48)
	}
}

// fullBut is a block with the records, and behind them a record that can spare nothing.
func fullBut(t *testing.T, records ...rec) []byte {
	t.Helper()
	for {
		left := 256
		for _, r := range records {
			left -= r.length
		}
		if left == 0 {
			return laid(0, records...)
		}
		n := 4 * min((left-8)/4, 12)
		if left-8-n > 0 && left-8-n < 12 {
			n -= 12
		}
		if left < 12 || n < 4 {
			t.Fatal("no name leaves", left)
		}
		records = append(records, has(8+n, file(fmt.Sprintf("%04d", len(records))+long(n)[4:], 1)))
	}
}

// Of a record without an entry, of each length about what names need.
func TestP162RoomWithoutEntry(t *testing.T) {
	for length, want := range map[int]int{8: 0, 12: 4, 16: 8, 20: 12, 24: 16, 28: 20, 32: 24, 36: 28, 40: 32, 44: 36, 48: 40, 52: 44, 56: 48, 60: 48, 64: 48, 128: 48} {
		is(t, fmt.Sprint("one of ", length), dirent.Room(fullBut(t, none(length))), want)
		is(t, fmt.Sprint("one of ", length, " behind another"), dirent.Room(fullBut(t, has(12, file("a", 1)), none(length))), want)
		is(t, fmt.Sprint("one of ", length, " and one of 8"), dirent.Room(fullBut(t, none(8), none(length), none(8))), want)
	}
}

// Behind an entry, of each length about what names need.
func TestP162RoomBehindAnEntry(t *testing.T) {
	for n := 1; n <= 48; n++ {
		for more := 0; more <= 80; more += 4 {
			want := min(max(more-8, 0), 48)
			b := fullBut(t, has(needs(n)+more, dir("x"+long(n)[1:], 1)))
			is(t, fmt.Sprint("behind a name of ", n, " with ", more, " more"), dirent.Room(b), want)
		}
	}
	is(t, "no record has room", dirent.Room(fullBut(t)), 0)
	is(t, "names of 1", dirent.Room(filled(t, 1)), 0)
	is(t, "names of 48", dirent.Room(filled(t, 48)), 24)
	is(t, "several, the greatest counts", dirent.Room(fullBut(t, none(12), has(12+20, file("x", 1)), none(16))), 12)
	is(t, "several, the first is the greatest", dirent.Room(fullBut(t, none(28), has(12+20, file("x", 1)), none(16))), 20)
	is(t, "what none can spare alone they can't together", dirent.Room(fullBut(t, has(20, file("x", 1)), has(20, file("y", 1)), none(8), none(8))), 0)
}

// Room is what Add has room for, of each length.
func TestP162RoomIsWhatAddTakes(t *testing.T) {
	var s stream = 18
	for range 1500 {
		b := s.block()
		room := dirent.Room(b)
		if dirent.State(b) != api.OK {
			is(t, "Room of a refused one", room, 0)
			continue
		}
		for n := 1; n <= 48; n++ {
			// The names of block begin with other letters.
			now, e := dirent.Add(b, file("Z"+long(n)[1:], 1))
			is(t, fmt.Sprintf("Add of %d bytes, with Room %d, to % x", n, room, b), e == api.ErrFull, n > room)
			is(t, "Add", e == api.OK && now != nil, n <= room)
		}
	}
	for _, n := range []int{1, 4, 5, 48} {
		// Just enough for that name, and 4 bytes less.
		b := fullBut(t, none(needs(n)))
		changes(t, b, file("Z"+long(n)[1:], 3))
		is(t, "Room", dirent.Room(b), needs(n)-8)
		b = fullBut(t, has(12+needs(n), file("q", 1)))
		changes(t, b, file("Z"+long(n)[1:], 3))
		is(t, "Room", dirent.Room(b), needs(n)-8)
		b = fullBut(t, has(8+needs(n), file("q", 1)))
		changes(t, b, file("Z"+long(n)[1:], 3))
		is(t, "Room", dirent.Room(b), max(needs(n)-12, 0))
	}
}

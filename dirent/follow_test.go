package dirent_test

import (
	"fmt"
	"maps"
	"slices"
	"testing"

	"slipway/api"
	"slipway/dirent"
)

// some are entries of unlike names, as many as have room.
func (s *stream) some(most int) []api.Entry {
	var l []api.Entry
	for left := 256; ; {
		e := s.entry(most)
		if left -= needs(len(e.Name)); left < 0 || s.below(12) == 0 {
			return l
		}
		if _, is := entryOf(l, e.Name); is {
			left += needs(len(e.Name))
			continue
		}
		l = append(l, e)
	}
}

// without are entries but that of one name.
func without(l []api.Entry, name string) []api.Entry {
	return slices.DeleteFunc(slices.Clone(l), func(e api.Entry) bool { return e.Name == name })
}

func entries(b []byte) []api.Entry { return slices.Collect(dirent.Entries(b)) }

func TestP164ThereAndBack(t *testing.T) {
	t.Parallel()
	var s stream = 30
	longest := 0
	for range 1500 {
		l := s.some([]int{2, 4, 12, 48}[s.below(4)])
		longest = max(longest, len(l))
		b := made(t, l...)
		again := made(t, entries(b)...)
		sameBytes(t, "Make of Entries of Make", again, b)
		for i, e := range l {
			// What is left is in its order.
			now := remove(t, b, e.Name)
			sameEntries(t, "Entries behind Remove", now, without(l, e.Name))
			_, ok := dirent.Find(now, e.Name)
			is(t, "Find of what was removed", ok, false)
			// And back: where one was removed one as long has room, in its place.
			back := add(t, now, e)
			sameEntries(t, "Entries behind Add", back, l)
			got, ok := dirent.Find(back, e.Name)
			is(t, "Find of what was added", got, e)
			is(t, "Find of what was added", ok, true)
			if i > 0 {
				sameBytes(t, "the block", back, b)
			}
		}
	}
	is(t, "the longest list", longest > 18, true)
}

// twin is a block and what it should have.
type twin struct {
	block []byte
	names map[string]api.Entry
}

// same holds a block against its map, and its entries' order against the records'.
func (w *twin) same(t *testing.T) {
	t.Helper()
	view(t, w.block)
	got := entries(w.block)
	is(t, "how many", len(got), len(w.names))
	for _, e := range got {
		is(t, "an entry", e, w.names[e.Name])
	}
	for name, e := range w.names {
		found, ok := dirent.Find(w.block, name)
		is(t, "Find", found, e)
		is(t, "Find", ok, true)
	}
}

// change does one call, and what it means in the map. It tells which error there was.
func (w *twin) change(t *testing.T, which int, e api.Entry) api.Errno {
	t.Helper()
	_, there := w.names[e.Name]
	was, room, order := w.block, dirent.Room(w.block), entries(w.block)
	var now []byte
	var err api.Errno
	switch which {
	case 0:
		now, err = dirent.Add(was, e)
		is(t, "ErrTwice", err == api.ErrTwice, there)
		is(t, "ErrFull", err == api.ErrFull, !there && len(e.Name) > room)
		want, wanted := added(was, e)
		answered(t, "Add", now, err, want, wanted)
	case 1:
		now, err = dirent.Remove(was, e.Name)
		is(t, "ErrNone", err == api.ErrNone, !there)
		want, wanted := removed(was, e.Name)
		answered(t, "Remove", now, err, want, wanted)
	case 2:
		now, err = dirent.Turn(was, e)
		is(t, "ErrNone", err == api.ErrNone, !there)
		want, wanted := turned(was, e)
		answered(t, "Turn", now, err, want, wanted)
	}
	if err != api.OK {
		return err
	}
	w.block = now
	switch which {
	case 0:
		w.names[e.Name] = e
		is(t, "the others' order", slices.Equal(without(entries(now), e.Name), order), true)
	case 1:
		delete(w.names, e.Name)
		sameEntries(t, "the others' order", now, without(order, e.Name))
		is(t, "Room doesn't fall", dirent.Room(now) >= room, true)
	case 2:
		w.names[e.Name] = e
		is(t, "Room", dirent.Room(now), room)
		is(t, "its place", slices.IndexFunc(entries(now), func(x api.Entry) bool { return x.Name == e.Name }), slices.IndexFunc(order, func(x api.Entry) bool { return x.Name == e.Name }))
		is(t, "the others' order", slices.Equal(without(entries(now), e.Name), without(order, e.Name)), true)
	}
	return err
}

// empty removes all that is left, in a drawn order.
func (w *twin) empty(t *testing.T, s *stream) {
	t.Helper()
	for len(w.names) > 0 {
		names := slices.Sorted(maps.Keys(w.names))
		is(t, "Remove", w.change(t, 1, w.names[names[s.below(len(names))]]), api.OK)
	}
	is(t, "Room behind all", dirent.Room(w.block), 48)
	is(t, "Entries behind all", len(entries(w.block)), 0)
	add(t, w.block, file(long(48), 1))
	for n := 1; n <= 48; n++ {
		add(t, w.block, file(long(n), n))
	}
}

// Many calls one behind the other, with names that come again and again, held against a map.
func TestP165P166P167ManyCalls(t *testing.T) {
	t.Parallel()
	var s stream = 31
	for run := range 36 {
		// Short names fill a block with many, long ones with few; adds are the more frequent the longer the run goes on in turns.
		most := []int{1, 2, 4, 9, 20, 48}[run%6]
		var pool []string
		for range 16 + s.below(30) {
			pool = append(pool, s.entry(most).Name)
		}
		w := twin{dirent.Empty(), map[string]api.Entry{}}
		told := map[api.Errno]int{}
		for i := range 500 {
			e := api.Entry{Name: pool[s.below(len(pool))], Inode: 1 + s.below(1<<20), Kind: 1 + s.below(2)}
			which := []int{0, 0, 0, 1, 1, 2}[s.below(6)]
			if i/100%2 == 1 && which == 0 && s.below(2) == 0 {
				which = 1
			}
			told[w.change(t, which, e)]++
			w.same(t)
			if i%233 == 232 {
				w.empty(t, &s)
			}
		}
		if told[api.OK] < 50 || told[api.ErrTwice] < 10 || told[api.ErrNone] < 10 || most == 48 && told[api.ErrFull] < 10 {
			t.Error("run", run, "with names of up to", most, "tells too few errors:", told)
		}
		w.empty(t, &s)
	}
}

// A name that has no room alone changes nothing: the map goes on without it.
func TestP166WhereItIsFull(t *testing.T) {
	w := twin{dirent.Empty(), map[string]api.Entry{}}
	for i := range 60 {
		e := api.Entry{Name: fmt.Sprint(long(30), i), Inode: 1 + i, Kind: 1 + i%2}
		want := api.ErrFull
		if i < 6 {
			want = api.OK
		}
		is(t, "Add", w.change(t, 0, e), want)
		w.same(t)
	}
	is(t, "Room", dirent.Room(w.block), 8)
	is(t, "a name as long as Room", w.change(t, 0, file("12345678", 1)), api.OK)
	w.same(t)
}

// orders calls with each order of a list.
func orders(l []api.Entry, from int, do func([]api.Entry)) {
	if from == len(l) {
		do(l)
		return
	}
	for i := from; i < len(l); i++ {
		l[from], l[i] = l[i], l[from]
		orders(l, from+1, do)
		l[from], l[i] = l[i], l[from]
	}
}

// All entries are removed in each order there is.
func TestP167EachOrder(t *testing.T) {
	t.Parallel()
	for _, l := range [][]api.Entry{
		{file("a", 1)},
		{file("a", 1), dir("b", 2)},
		{file(long(48), 1), file(long(47), 2), file(long(46), 3), file(long(45), 4), file(long(24), 5)},
		{file(long(30), 1), file("b", 2), file(long(17), 3), dir("d", 4), file(long(41), 5), dir(long(5), 6)},
		{file("a", 1), file("b", 2), file("c", 3), file("d", 4), file("e", 5), file("f", 6)},
	} {
		whole := made(t, l...)
		orders(slices.Clone(l), 0, func(l []api.Entry) {
			b, room := whole, dirent.Room(whole)
			for i, e := range l {
				now, err := dirent.Remove(b, e.Name)
				want, wanted := removed(b, e.Name)
				answered(t, "Remove", now, err, want, wanted)
				is(t, "Remove", err, api.OK)
				is(t, "Room doesn't fall", dirent.Room(now) >= room, true)
				is(t, "how many are left", len(entries(now)), len(l)-i-1)
				b, room = now, dirent.Room(now)
			}
			is(t, "Room behind all", room, 48)
		})
	}
}

// Room doesn't fall by a Remove of whatever block either.
func TestP167RoomOfDrawnBlocks(t *testing.T) {
	t.Parallel()
	var s stream = 32
	for range 4000 {
		b := s.block()
		for _, e := range entriesOf(b) {
			now := remove(t, b, e.Name)
			if dirent.Room(now) < dirent.Room(b) {
				t.Fatalf("Room behind Remove of %q of % x: %d", e.Name, b, dirent.Room(now))
			}
			sameEntries(t, "Entries", now, without(entriesOf(b), e.Name))
		}
	}
}

// What each call answers is taken, one call behind the other, from whatever block that is taken.
func TestP165OfDrawnBlocks(t *testing.T) {
	t.Parallel()
	var s stream = 33
	for range 1500 {
		w := twin{block: s.block(), names: map[string]api.Entry{}}
		if dirent.State(w.block) != api.OK {
			continue
		}
		for _, e := range entriesOf(w.block) {
			w.names[e.Name] = e
		}
		for range 20 {
			w.change(t, s.below(3), s.entry(2+s.below(12)))
			w.same(t)
		}
	}
}

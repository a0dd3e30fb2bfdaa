package dirent_test

import (
	"bytes"
	"fmt"
	"slices"
	"strings"
	"testing"
	"time"

	"slipway/api"
	"slipway/dirent"
)

// Whatever entries are handed in: each call ends, none panics, and with an error all else is zero.
func TestR1AndR2OfEntries(t *testing.T) {
	t.Parallel()
	blocks := [][]byte{nil, {}, make([]byte, 256), dirent.Empty(), made(t, file("a", 1), dir("bb", 2)), filled(t, 1), filled(t, 48)}
	names := append(wrongNames(), rightNames()...)
	for _, b := range blocks {
		for _, s := range names {
			for _, inode := range []int{oddNumbers[0], -1, 0, 1, 1 << 20, 1<<20 + 1, oddNumbers[len(oddNumbers)-1]} {
				for _, kind := range []int{oddNumbers[0], -1, 0, 1, 2, 3, 255, 257} {
					e := api.Entry{Name: s, Inode: inode, Kind: kind}
					changes(t, b, e)
					now, err := dirent.Make(e)
					is(t, "Make", now != nil, err == api.OK)
					is(t, "Make", err, wrongEntry(e))
				}
			}
			found, ok := dirent.Find(b, s)
			is(t, "Find", found != api.Entry{}, ok)
		}
	}
	for _, n := range oddNumbers {
		for _, m := range oddNumbers {
			changes(t, blocks[4], api.Entry{Name: "a", Inode: n, Kind: m})
			changes(t, blocks[4], api.Entry{Name: "new", Inode: n, Kind: m})
		}
	}
}

// Whatever bytes are handed in, of whatever length.
func TestR1AndR2OfBytes(t *testing.T) {
	t.Parallel()
	var s stream = 41
	for range 20000 {
		b := make([]byte, s.below(520))
		if s.below(3) > 0 {
			b = make([]byte, 256)
		}
		for i := range b {
			switch s.below(4) {
			case 0:
				b[i] = byte(s.next())
			case 1:
				b[i] = byte(s.below(20) * 4)
			}
		}
		view(t, b)
		changes(t, b, s.entry(9))
		found, ok := dirent.Find(b, "a")
		is(t, "Find", found != api.Entry{}, ok)
	}
}

// What is handed in is not written to, nor what stands behind it.
func TestR3HandedIn(t *testing.T) {
	var s stream = 42
	for range 1500 {
		whole := append(s.block(), bytes.Repeat([]byte{0x5a}, 300)...)
		was := slices.Clone(whole)
		for _, n := range []int{0, 8, 255, 256, 257, 556} {
			b := whole[:n]
			dirent.State(b)
			dirent.Room(b)
			dirent.Find(b, "a")
			for range dirent.Entries(b) {
			}
			for _, e := range append(entriesOf(b), s.entry(48), s.entry(2)) {
				dirent.Add(b, e)
				dirent.Remove(b, e.Name)
				e.Inode = 7
				dirent.Turn(b, e)
			}
		}
		is(t, "the block", string(whole), string(was))
		l := append(s.some(12), s.entry(2), api.Entry{Name: "/"})
		roomy := append(slices.Clone(l), file("behind", 9))
		dirent.Make(roomy[:len(l)]...)
		is(t, "the entries", fmt.Sprint(roomy), fmt.Sprint(append(slices.Clone(l), file("behind", 9))))
	}
}

// scribble writes on all that bytes reach, also behind their end.
func scribble(b []byte) {
	b = b[:cap(b)]
	for i := range b {
		b[i] = 0x77
	}
}

// What is answered is nobody's else: neither what was handed in, nor another answer. And nothing that was handed in is kept.
func TestR3Answers(t *testing.T) {
	b := made(t, file("a", 1), dir("bb", 2), file(long(48), 3))
	was := slices.Clone(b)
	for _, do := range []func(b []byte) ([]byte, api.Errno){
		func([]byte) ([]byte, api.Errno) { return dirent.Empty(), api.OK },
		func([]byte) ([]byte, api.Errno) { return dirent.Make() },
		func([]byte) ([]byte, api.Errno) { return dirent.Make(file("a", 1)) },
		func(b []byte) ([]byte, api.Errno) { return dirent.Add(b, file("c", 3)) },
		func(b []byte) ([]byte, api.Errno) { return dirent.Add(b, file(long(47), 3)) },
		func(b []byte) ([]byte, api.Errno) { return dirent.Remove(b, "a") },
		func(b []byte) ([]byte, api.Errno) { return dirent.Remove(b, "bb") },
		func(b []byte) ([]byte, api.Errno) { return dirent.Turn(b, file("bb", 9)) },
		// Also where nothing is changed.
		func(b []byte) ([]byte, api.Errno) { return dirent.Turn(b, dir("bb", 2)) },
	} {
		first, e := do(b)
		is(t, "the first", e, api.OK)
		want := string(first)
		second, _ := do(b)
		handed := slices.Clone(b)
		third, _ := do(handed)
		scribble(handed)
		scribble(first)
		is(t, "another answer", string(second), want)
		is(t, "another answer", string(third), want)
		is(t, "the block", string(b), string(was))
		fourth, _ := do(b)
		is(t, "a later answer", string(fourth), want)
	}
}

func TestR3Names(t *testing.T) {
	b := made(t, file("a", 1), dir("bb", 2))
	handed := slices.Clone(b)
	found, ok := dirent.Find(handed, "bb")
	l := slices.Collect(dirent.Entries(handed))
	scribble(handed)
	is(t, "Find", found, dir("bb", 2))
	is(t, "Find", ok, true)
	is(t, "Entries", fmt.Sprint(l), "[{a 1 1} {bb 2 2}]")
	entries := []api.Entry{file("x", 1), dir("yy", 2)}
	now, _ := dirent.Make(entries...)
	want := string(now)
	entries[0], entries[1] = file("q", 9), file("r", 9)
	is(t, "Make", string(now), want)
}

// An iterator tells what was there when it was asked for, whatever is done with the block.
func TestR3Iterator(t *testing.T) {
	b := laid(0, none(8), has(12, file("a", 1)), has(116, dir("bb", 2)), none(20), has(100, file("c", 3)))
	want := fmt.Sprint(entriesOf(b))
	all := dirent.Entries(b)
	none, other := dirent.Entries(make([]byte, 256)), dirent.Entries(b[:255])
	scribble(b)
	for range 3 {
		var got []api.Entry
		for e := range all {
			got = append(got, e)
			copy(b, filled(t, 1))
		}
		is(t, "Entries", fmt.Sprint(got), want)
	}
	for e := range none {
		t.Error("it tells", e)
	}
	for e := range other {
		t.Error("it tells", e)
	}
	late := make([]byte, 256)
	before := dirent.Entries(late)
	copy(late, filled(t, 1))
	for e := range before {
		t.Error("it tells what came later,", e)
	}
}

// Empty and nil lists are the same.
func TestR4(t *testing.T) {
	a, e := dirent.Make()
	b, f := dirent.Make([]api.Entry{}...)
	c, g := dirent.Make(nil...)
	is(t, "Make", string(a)+e.Error(), string(b)+f.Error())
	is(t, "Make", string(a)+e.Error(), string(c)+g.Error())
	sameBytes(t, "Make of none", a, dirent.Empty())
	refused(t, "nil", nil)
	refused(t, "empty", []byte{})
}

func TestR6(t *testing.T) {
	all := func() string {
		var said strings.Builder
		var s stream = 43
		for range 300 {
			b := s.block()
			said.WriteString(fmt.Sprint(dirent.State(b), dirent.Room(b), slices.Collect(dirent.Entries(b))))
			for _, e := range append(entriesOf(b), s.entry(4), s.entry(48)) {
				now, err := dirent.Add(b, e)
				said.WriteString(fmt.Sprint(now, err))
				now, err = dirent.Remove(b, e.Name)
				said.WriteString(fmt.Sprint(now, err))
				now, err = dirent.Turn(b, e)
				said.WriteString(fmt.Sprint(now, err))
			}
			l := s.some(9)
			now, err := dirent.Make(l...)
			said.WriteString(fmt.Sprint(now, err))
		}
		return said.String()
	}
	is(t, "the same calls", all() == all(), true)
}

// What is far too long is refused in time, and what is not is done in time.
func TestTheBound(t *testing.T) {
	begun := time.Now()
	name := strings.Repeat("a", 1<<24)
	many := slices.Concat(filled(t, 1), make([]byte, 1<<24))
	entries := make([]api.Entry, 1<<18)
	for i := range entries {
		entries[i] = file(fmt.Sprint(i), 1+i)
	}
	full := filled(t, 1)
	for range 2000 {
		is(t, "Name", dirent.Name(name), api.ErrName)
		is(t, "Check", dirent.Check(file(name, 1)), api.ErrName)
		_, e := dirent.Add(full, file(name, 1))
		is(t, "Add", e, api.ErrName)
		_, e = dirent.Remove(full, name)
		is(t, "Remove", e, api.ErrNone)
		_, e = dirent.Turn(full, file(name, 1))
		is(t, "Turn", e, api.ErrName)
		_, ok := dirent.Find(full, name)
		is(t, "Find", ok, false)
		is(t, "State", dirent.State(many), api.ErrDir)
		is(t, "Room", dirent.Room(many), 0)
		_, e = dirent.Add(many, file("a", 1))
		is(t, "Add", e, api.ErrDir)
		_, e = dirent.Make(entries...)
		is(t, "Make", e, api.ErrFull)
	}
	b := dirent.Empty()
	for i := range 100000 {
		e := file(string(rune('a'+i%20)), 1+i)
		now, err := dirent.Add(b, e)
		if err == api.ErrTwice {
			now, err = dirent.Remove(b, e.Name)
		}
		is(t, "a change", err, api.OK)
		b = now
	}
	if took := time.Since(begun); took > 20*time.Second {
		t.Error("it took", took)
	}
}

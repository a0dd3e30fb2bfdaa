package dirent_test

import (
	"bytes"
	"encoding/binary"
	"fmt"
	"math"
	"slices"
	"strings"
	"testing"

	"slipway/api"
	"slipway/dirent"
)

// is ends the test at the first thing that is wrong: of thousands of blocks nobody would read all.
func is[T comparable](t *testing.T, name string, got, want T) {
	t.Helper()
	if got != want {
		t.Fatalf("%s: %#v, want %#v", name, got, want)
	}
}

// sameBytes holds blocks against each other byte by byte.
func sameBytes(t *testing.T, name string, got, want []byte) {
	t.Helper()
	for i := range min(len(got), len(want)) {
		if got[i] != want[i] {
			t.Fatalf("%s: byte %d is %#x, want %#x\n% x\n% x", name, i, got[i], want[i], got, want)
		}
	}
	if len(got) != len(want) {
		t.Fatalf("%s: %d bytes, want %d", name, len(got), len(want))
	}
}

// stream gives numbers that look mixed and are the same in every run.
type stream uint64

func (s *stream) next() uint64 {
	*s = *s*6364136223846793005 + 1442695040888963407
	return uint64(*s >> 33)
}

func (s *stream) below(n int) int { return int(s.next() % uint64(n)) }

func file(name string, inode int) api.Entry {
	return api.Entry{Name: name, Inode: inode, Kind: 1}
}

func dir(name string, inode int) api.Entry {
	return api.Entry{Name: name, Inode: inode, Kind: 2}
}

// long is a name of n bytes.
func long(n int) string {
	return strings.Repeat("abcdefghij", n/10+1)[:n]
}

// rec is a record of a block. One of Inode 0 has no entry.
type rec struct {
	length int
	api.Entry
}

// none is a record without an entry.
func none(length int) rec { return rec{length: length} }

func has(length int, e api.Entry) rec { return rec{length, e} }

// wire is a record's head and name.
func wire(r rec) []byte {
	b := binary.BigEndian.AppendUint32(nil, uint32(r.Inode))
	b = binary.BigEndian.AppendUint16(b, uint16(r.length))
	return append(append(b, byte(len(r.Name)), byte(r.Kind)), r.Name...)
}

// laid are records one behind the other, with the same byte behind all names: as many bytes as the records are long.
func laid(behind byte, records ...rec) []byte {
	var b []byte
	for _, r := range records {
		at := len(b)
		b = append(b, slices.Repeat([]byte{behind}, r.length)...)
		if at < len(b) {
			copy(b[at:], wire(r))
		}
	}
	return b
}

// patched is a block in which other bytes stand at a place.
func patched(b []byte, at int, bytes ...byte) []byte {
	b = slices.Clone(b)
	copy(b[at:], bytes)
	return b
}

// needs is how long the record of a name of n bytes must be.
func needs(n int) int {
	need := 8
	for need < 8+n {
		need += 4
	}
	return need
}

func nameMayBe(s string) bool {
	for i := range len(s) {
		if s[i] == 0 || s[i] == 47 {
			return false
		}
	}
	return len(s) >= 1 && len(s) <= 48 && s != "." && s != ".."
}

// wrongEntry is what is wrong with an entry.
func wrongEntry(e api.Entry) api.Errno {
	switch {
	case !nameMayBe(e.Name):
		return 161
	case e.Inode < 1 || e.Inode > 1048576 || e.Kind < 1 || e.Kind > 2:
		return 162
	}
	return 0
}

// read are the records of a block, and whether it may be, told without the program's help.
func read(b []byte) ([]rec, bool) {
	var l []rec
	seen := map[string]int{}
	if len(b) != 256 {
		return nil, false
	}
	for len(b) > 0 {
		if len(b) < 8 {
			return nil, false
		}
		inode, length, n := binary.BigEndian.Uint32(b), int(binary.BigEndian.Uint16(b[4:])), int(b[6])
		if length < 8+n || length > len(b) || length&3 != 0 {
			return nil, false
		}
		r := has(length, api.Entry{Name: string(b[8 : 8+n]), Inode: int(inode), Kind: int(b[7])})
		if inode == 0 && (n > 0 || r.Kind > 0) || inode != 0 && (wrongEntry(r.Entry) != 0 || seen[r.Name] > 0) {
			return nil, false
		}
		seen[r.Name] += int(min(inode, 1))
		l, b = append(l, r), b[length:]
	}
	return l, true
}

// entriesOf are the entries of a block that may be.
func entriesOf(b []byte) []api.Entry {
	var l []api.Entry
	records, _ := read(b)
	for _, r := range records {
		if r.Inode != 0 {
			l = append(l, r.Entry)
		}
	}
	return l
}

func entryOf(l []api.Entry, name string) (api.Entry, bool) {
	for _, e := range l {
		if e.Name == name {
			return e, true
		}
	}
	return api.Entry{}, false
}

// roomOf is Room, by trying: the greatest name that some record has room for.
func roomOf(b []byte) int {
	records, _ := read(b)
	for n := 48; n > 0; n-- {
		for _, r := range records {
			if r.Inode == 0 && r.length >= needs(n) || r.Inode != 0 && r.length >= needs(len(r.Name))+needs(n) {
				return n
			}
		}
	}
	return 0
}

// added is what Add answers: bytes laid without the program's help.
func added(b []byte, e api.Entry) ([]byte, api.Errno) {
	records, ok := read(b)
	if wrong := wrongEntry(e); wrong != 0 {
		return nil, wrong
	}
	if !ok {
		return nil, 160
	}
	if _, is := entryOf(entriesOf(b), e.Name); is {
		return nil, 5
	}
	now, at := slices.Clone(b), 0
	for _, r := range records {
		own := needs(len(r.Name))
		if r.Inode == 0 && r.length >= needs(len(e.Name)) {
			copy(now[at:], wire(has(r.length, e)))
			return now, 0
		}
		if r.Inode != 0 && r.length >= own+needs(len(e.Name)) {
			copy(now[at:], wire(has(own, r.Entry)))
			copy(now[at+own:], wire(has(r.length-own, e)))
			return now, 0
		}
		at += r.length
	}
	return nil, 6
}

// removed is what Remove answers.
func removed(b []byte, name string) ([]byte, api.Errno) {
	records, ok := read(b)
	if !ok {
		return nil, 160
	}
	now, at := slices.Clone(b), 0
	for i, r := range records {
		switch {
		case r.Inode == 0 || r.Name != name:
		case i == 0:
			copy(now, wire(none(r.length)))
			return now, 0
		default:
			ahead := records[i-1]
			binary.BigEndian.PutUint16(now[at-ahead.length+4:], uint16(ahead.length+r.length))
			return now, 0
		}
		at += r.length
	}
	return nil, 4
}

// turned is what Turn answers.
func turned(b []byte, e api.Entry) ([]byte, api.Errno) {
	records, ok := read(b)
	if wrong := wrongEntry(e); wrong != 0 {
		return nil, wrong
	}
	if !ok {
		return nil, 160
	}
	now, at := slices.Clone(b), 0
	for _, r := range records {
		if r.Inode != 0 && r.Name == e.Name {
			binary.BigEndian.PutUint32(now[at:], uint32(e.Inode))
			now[at+7] = byte(e.Kind)
			return now, 0
		}
		at += r.length
	}
	return nil, 4
}

// answered holds what a change answered against what was to be answered.
func answered(t *testing.T, name string, got []byte, e api.Errno, want []byte, wanted api.Errno) {
	t.Helper()
	if e != wanted || (got != nil) != (wanted == 0) {
		t.Fatalf("%s: %v and % x, want %v", name, e, got, wanted)
	}
	sameBytes(t, name, got, want)
	if wanted == 0 {
		is(t, "State of what is answered", dirent.State(got), api.OK)
	}
}

// view are all that calls tell of a block, held against what is read of it without their help.
func view(t *testing.T, b []byte) {
	t.Helper()
	_, ok := read(b)
	want, state := entriesOf(b), api.OK
	if !ok {
		state = 160
	}
	// Messages are made where they are needed alone: there are many blocks.
	if got := dirent.State(b); got != state {
		t.Fatalf("State of % x: %v", b, got)
	}
	if got := slices.Collect(dirent.Entries(b)); !slices.Equal(got, want) {
		t.Fatalf("Entries of % x: %+v", b, got)
	}
	if got := dirent.Room(b); got != roomOf(b) {
		t.Fatalf("Room of % x: %d", b, got)
	}
	for _, e := range want {
		if got, ok := dirent.Find(b, e.Name); got != e || !ok {
			t.Fatalf("Find of %q in % x: %+v, %v", e.Name, b, got, ok)
		}
	}
}

// changes does each change of a block with an entry.
func changes(t *testing.T, b []byte, e api.Entry) {
	t.Helper()
	now, err := dirent.Add(b, e)
	want, wanted := added(b, e)
	if err != wanted || !bytes.Equal(now, want) {
		t.Fatalf("Add of %+v to % x", e, b)
	}
	answered(t, "Add", now, err, want, wanted)
	now, err = dirent.Remove(b, e.Name)
	want, wanted = removed(b, e.Name)
	if err != wanted || !bytes.Equal(now, want) {
		t.Fatalf("Remove of %q of % x", e.Name, b)
	}
	answered(t, "Remove", now, err, want, wanted)
	now, err = dirent.Turn(b, e)
	want, wanted = turned(b, e)
	if err != wanted || !bytes.Equal(now, want) {
		t.Fatalf("Turn of %+v in % x", e, b)
	}
	answered(t, "Turn", now, err, want, wanted)
}

// sameEntries holds what Entries tells against a list.
func sameEntries(t *testing.T, name string, b []byte, want []api.Entry) {
	t.Helper()
	if got := slices.Collect(dirent.Entries(b)); !slices.Equal(got, want) {
		t.Fatalf("%s: %+v, want %+v", name, got, want)
	}
}

// made is a block of entries.
func made(t *testing.T, l ...api.Entry) []byte {
	t.Helper()
	b, e := dirent.Make(l...)
	is(t, "Make", e, api.OK)
	view(t, b)
	sameEntries(t, "Entries of Make", b, l)
	return b
}

// wrongNames are names that may not be, but that they are not too long for a block.
func wrongNames() []string {
	l := []string{"", ".", "..", "/", "\x00", "//", "./", "../", "a/", "/a", ".\x00", "\x00.", "a\x00", "\x00a", "..\x00", "\xff/", "\xff\x00", long(49), long(50), long(99)}
	for _, n := range []int{3, 8, 9, 47, 48, 49} {
		for _, c := range []byte{0, 47} {
			for _, at := range []int{0, n / 2, n - 1} {
				l = append(l, string(patched([]byte(long(n)), at, c)))
			}
		}
	}
	return l
}

// rightNames are names that may be, and are unlike each other.
func rightNames() []string {
	return []string{"a", "b", "...", ". ", " .", ".a", "a.", "..a", "a..", "....", "\x01", "\x7f", "\x80", "\xff", "\xff\xfe\xff", ".\xff", " ", "\n", "é", "日本", "\\", ":", "*", "-", ".\xc0\xae", long(2), long(3), long(4), long(5), long(7), long(8), long(9), long(47), long(48), strings.Repeat("\xff", 48), strings.Repeat(".", 48)}
}

func TestP161Name(t *testing.T) {
	for _, s := range rightNames() {
		is(t, fmt.Sprintf("Name of %q", s), dirent.Name(s), api.OK)
	}
	for _, s := range wrongNames() {
		is(t, fmt.Sprintf("Name of %q", s), dirent.Name(s), api.Errno(161))
	}
}

func TestP161NameOfLengths(t *testing.T) {
	for n := range 600 {
		for _, c := range []string{"a", ".", "\xff", "\x01"} {
			s := strings.Repeat(c, n)
			is(t, fmt.Sprintf("Name of %q", s), dirent.Name(s) == api.OK, n >= 1 && n <= 48 && s != "." && s != "..")
		}
	}
	is(t, "far too long", dirent.Name(strings.Repeat("a", 1<<20)), api.ErrName)
}

// Each byte at each place of names of each length.
func TestP161NameOfBytes(t *testing.T) {
	for n := 1; n <= 48; n++ {
		for at := range n {
			for c := range 256 {
				s := string(patched([]byte(long(n)), at, byte(c)))
				ok := c != 0 && c != '/' && s != "."
				is(t, fmt.Sprintf("Name of %q", s), dirent.Name(s) == api.OK, ok)
			}
		}
	}
}

var oddNumbers = []int{math.MinInt, math.MinInt + 1, -1<<32 + 1, math.MinInt32, -1048576, -256, -2, -1, 0, 1, 2, 3, 4, 7, 8, 48, 49, 254, 255, 256, 257, 258, 512, 65535, 65536, 1048575, 1048576, 1048577, 1 << 24, math.MaxInt32, 1<<32 - 1, 1 << 32, 1<<32 + 1, 1<<32 + 2, 1<<40 + 1, math.MaxInt - 1, math.MaxInt}

func TestP161Check(t *testing.T) {
	for _, kind := range oddNumbers {
		for _, inode := range oddNumbers {
			want := api.Errno(162)
			if (kind == 1 || kind == 2) && inode >= 1 && inode <= 1<<20 {
				want = 0
			}
			for _, s := range []string{"a", "...", long(48), "\xff"} {
				e := api.Entry{Name: s, Inode: inode, Kind: kind}
				is(t, fmt.Sprintf("Check of %+v", e), dirent.Check(e), want)
			}
			// The name's error comes first, whatever else is wrong.
			for _, s := range []string{"", ".", "..", "a/b", "a\x00", long(49)} {
				e := api.Entry{Name: s, Inode: inode, Kind: kind}
				is(t, fmt.Sprintf("Check of %+v", e), dirent.Check(e), api.Errno(161))
			}
		}
	}
	for _, s := range rightNames() {
		is(t, fmt.Sprintf("Check of %q", s), dirent.Check(file(s, 1)), api.OK)
	}
	for _, s := range wrongNames() {
		is(t, fmt.Sprintf("Check of %q", s), dirent.Check(dir(s, 1)), api.ErrName)
	}
	is(t, "Check of nothing", dirent.Check(api.Entry{}), api.ErrName)
}

func TestP161CheckEdges(t *testing.T) {
	for _, x := range []struct {
		inode, kind int
		want        api.Errno
	}{
		{-1, 1, 162}, {0, 1, 162}, {1, 1, 0}, {1 << 20, 1, 0}, {1<<20 + 1, 1, 162}, {math.MinInt, 1, 162}, {math.MaxInt, 1, 162},
		{5, 0, 162}, {5, 1, 0}, {5, 2, 0}, {5, 3, 162}, {5, 255, 162}, {5, -1, 162}, {5, 257, 162}, {0, 0, 162},
	} {
		is(t, fmt.Sprint(x), dirent.Check(api.Entry{Name: "n", Inode: x.inode, Kind: x.kind}), x.want)
	}
}

func TestP161Empty(t *testing.T) {
	want := make([]byte, 256)
	want[4] = 1
	sameBytes(t, "Empty", dirent.Empty(), want)
	is(t, "State", dirent.State(dirent.Empty()), api.OK)
	view(t, dirent.Empty())
}

// The chapter's example.
func TestExample(t *testing.T) {
	is(t, "Empty", fmt.Sprintf("% x", dirent.Empty()[:8]), "00 00 00 00 01 00 00 00")
	b, e := dirent.Add(dirent.Empty(), api.Entry{Name: "a", Inode: 2, Kind: api.KindFile})
	is(t, "Add", e, api.OK)
	is(t, "Add", fmt.Sprintf("% x", b[:12]), "00 00 00 02 01 00 01 01 61 00 00 00")
	is(t, "the rest", string(b[12:]), string(make([]byte, 244)))
}

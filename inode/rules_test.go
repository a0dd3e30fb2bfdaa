package inode_test

import (
	"bytes"
	"fmt"
	"math"
	"slices"
	"strings"
	"testing"
	"time"

	"slipway/api"
	"slipway/inode"
)

var oddNumbers = []int{math.MinInt, math.MinInt + 1, math.MinInt32, -256, -1, 0, 1, 2, 3, 4, 255, 256, 257, 1000, 1001, 8191, 8192, 65535, 65536, 65537, 1 << 24, 1<<24 + 1, math.MaxInt32, 1<<32 - 1, 1 << 32, math.MaxInt - 1, math.MaxInt}

// Whatever numbers are handed in: each call ends, none panics, and with an error all else is zero.
func TestR1AndR2OfNumbers(t *testing.T) {
	for _, a := range oddNumbers {
		is(t, "Free", inode.Check(inode.Free(int64(a))), api.OK)
		is(t, "Blocks", inode.Blocks(int64(a)) > 0, a > 0)
		for _, b := range oddNumbers {
			for which := range numbers {
				for other := range numbers {
					for _, of := range []api.Inode{{}, file(), dir()} {
						calls(t, with(with(of, which, int64(a)), other, int64(b)), a)
					}
				}
			}
			for _, c := range oddNumbers {
				e := api.Extent{Logical: a, Len: b, Phys: c}
				for depth := range 3 {
					calls(t, withRoot(file(), depth, e), 2)
					calls(t, withRoot(file(), depth, api.Extent{Len: 1 - min(depth, 1), Phys: 9}, e), c)
				}
			}
		}
	}
}

// calls does all calls that take an inode.
func calls(t *testing.T, x api.Inode, slot int) {
	t.Helper()
	ok := mayBe(x)
	b, e := inode.Encode(x)
	if inode.Check(x) != right(ok) || e != right(ok) || (b != nil) != ok || !inode.Same(x, x) {
		t.Fatalf("calls of %+v: %v, % x", x, e, b)
	}
	table, e := inode.Put(goodTable, slot, x)
	want := right(ok)
	if slot < 0 || slot > 3 {
		want = api.ErrArg
	}
	if e != want || (table != nil) != (want == api.OK) {
		t.Fatalf("Put of %+v in %d: %v", x, slot, e)
	}
}

func TestR1AndR2OfBytes(t *testing.T) {
	var s stream = 21
	for range 20000 {
		b := make([]byte, s.below(300))
		for i := range b {
			if s.below(4) == 0 {
				b[i] = byte(s.next())
			}
		}
		x, e := inode.Decode(b)
		is(t, "Decode", e == api.OK || e == api.ErrInode && alike(x, api.Inode{}) && x.Root == nil, true)
		slot := oddNumbers[s.below(len(oddNumbers))]
		for _, table := range [][]byte{b, s.table()} {
			x, e = inode.Get(table, slot)
			is(t, "Get", e == api.OK || x.Root == nil && alike(x, api.Inode{}), true)
			is(t, "Get", e == api.ErrArg, len(table) != 256 || slot < 0 || slot > 3)
			for range inode.All(table) {
			}
		}
	}
}

// roomy is a list with room behind it, in which something stands.
func roomy(l []api.Extent) ([]api.Extent, []api.Extent) {
	whole := append(slices.Clone(l), api.Extent{Logical: 7, Len: 7, Phys: 7}, api.Extent{Logical: 8, Len: 8, Phys: 8})
	return whole[:len(l)], whole
}

// What is handed in is not written to, nor what stands behind it.
func TestR3HandedIn(t *testing.T) {
	for _, x := range append(good(), wrong()...) {
		var whole []api.Extent
		x.Root, whole = roomy(x.Root)
		was := fmt.Sprint(x, whole)
		inode.Check(x)
		inode.Encode(x)
		inode.Same(x, file())
		inode.Same(dir(), x)
		inode.Same(x, x)
		for slot := -1; slot < 5; slot++ {
			inode.Put(goodTable, slot, x)
		}
		is(t, "the inode", fmt.Sprint(x, whole), was)
	}
	var s stream = 22
	for range 500 {
		whole := append(s.table(), bytes.Repeat([]byte{0x5a}, 64)...)
		was := slices.Clone(whole)
		for _, n := range []int{0, 64, 255, 256, 257} {
			inode.Decode(whole[:n])
			for slot := -1; slot < 5; slot++ {
				inode.Get(whole[:n], slot)
				inode.Put(whole[:n], slot, s.inode())
			}
			for range inode.All(whole[:n]) {
			}
		}
		is(t, "the table", string(whole), string(was))
	}
}

// scribble writes on all that a list reaches, also behind its end.
func scribble(l []api.Extent) {
	l = l[:cap(l)]
	for i := range l {
		l[i] = api.Extent{Logical: -7, Len: -7, Phys: -7}
	}
}

// What was handed in is not kept: whoever changes it behind a call changes no answer.
func TestR3NotKept(t *testing.T) {
	x := withRoot(file(), 0, extents(4)...)
	encoded, _ := inode.Encode(x)
	table := slices.Clone(goodTable)
	put, _ := inode.Put(table, 2, x)
	want := slices.Concat(goodTable[:128], wire(x), goodTable[192:])
	scribble(x.Root)
	is(t, "what Encode answered", string(encoded), string(want[128:192]))
	is(t, "what Put answered", string(put), string(want))
	decoded, _ := inode.Decode(encoded)
	got, _ := inode.Get(table, 0)
	clear(encoded)
	clear(table)
	is(t, "what Decode answered", named(decoded), named(withRoot(file(), 0, extents(4)...)))
	is(t, "what Get answered", named(got), named(file()))
	is(t, "what Put answered", string(put), string(want))
}

// What is answered is nobody's else: neither what was handed in, nor another answer.
func TestR3Answers(t *testing.T) {
	fill := func(b []byte) {
		b = b[:cap(b)]
		for i := range b {
			b[i] = 0x77
		}
	}
	table := slices.Clone(goodTable)
	for slot := range 2 {
		first, _ := inode.Get(table, slot)
		second, _ := inode.Get(table, slot)
		third, _ := inode.Decode(table[64*slot : 64*slot+64])
		scribble(first.Root)
		scribble(third.Root)
		is(t, "another answer", named(second), named([]api.Inode{file(), dir()}[slot]))
		is(t, "the table", string(table), string(goodTable))
	}
	for slot := range 4 {
		// Also where nothing is changed.
		x, _ := inode.Get(table, slot)
		first, _ := inode.Put(table, slot, x)
		second, _ := inode.Put(table, slot, x)
		fill(first)
		is(t, "another answer", string(second), string(goodTable))
		is(t, "the table", string(table), string(goodTable))
	}
	first, _ := inode.Encode(file())
	second, _ := inode.Encode(file())
	fill(first)
	is(t, "another answer", string(second), string(wire(file())))
}

// An iterator tells what was there when it was asked for, whatever is done with the table, and with what it told.
func TestR3Iterator(t *testing.T) {
	table := slotsOf(wire(file()), wire(dir()), nil, wire(file()))
	want := "0 " + named(file()) + "1 " + named(dir()) + "3 " + named(file())
	all := inode.All(table)
	clear(table)
	for range 3 {
		got := ""
		for slot, x := range all {
			got += fmt.Sprint(slot, " ") + named(x)
			scribble(x.Root)
			copy(table, slices.Repeat(wire(dir()), 4))
		}
		is(t, "All", got, want)
	}
	// One of a table that was empty, or of another length, tells nothing, also if that is filled later.
	table = make([]byte, 257)
	none, other := inode.All(table[:256]), inode.All(table)
	copy(table, slices.Repeat(wire(dir()), 4))
	for slot := range none {
		t.Error("it tells what came later, in", slot)
	}
	for slot := range other {
		t.Error("it tells of a table of another length, in", slot)
	}
}

// Empty and nil lists are the same.
func TestR4(t *testing.T) {
	for depth := range 3 {
		for _, of := range []api.Inode{{}, {Gen: 5}, file(), dir()} {
			none, empty := withRoot(of, depth), withRoot(of, depth, []api.Extent{}...)
			empty.Root = []api.Extent{}
			is(t, "Check", inode.Check(none), inode.Check(empty))
			is(t, "Same", inode.Same(none, empty) && inode.Same(empty, none), true)
			a, e := inode.Encode(none)
			b, f := inode.Encode(empty)
			is(t, "Encode", string(a)+e.Error(), string(b)+f.Error())
			a, e = inode.Put(goodTable, 1, none)
			b, f = inode.Put(goodTable, 1, empty)
			is(t, "Put", string(a)+e.Error(), string(b)+f.Error())
		}
	}
	for _, b := range [][]byte{nil, {}} {
		x, e := inode.Decode(b)
		nothing(t, "Decode", x, e, api.ErrInode)
		x, e = inode.Get(b, 0)
		nothing(t, "Get", x, e, api.ErrArg)
		now, e := inode.Put(b, 0, file())
		noBytes(t, "Put", now, e, api.ErrArg)
		is(t, "All", told(b), "")
	}
}

func TestR6(t *testing.T) {
	all := func() string {
		var said strings.Builder
		var s stream = 31
		for range 200 {
			table, slot, x := s.table(), s.below(4), s.inode()
			b, e := inode.Encode(x)
			said.WriteString(fmt.Sprint(b, e, told(table)))
			now, e := inode.Put(table, slot, x)
			said.WriteString(fmt.Sprint(now, e, told(now), view(now)))
		}
		return said.String()
	}
	is(t, "the same calls", all() == all(), true)
}

// What is far too long is refused in time, and what is not is done in time.
func TestTheBound(t *testing.T) {
	begun := time.Now()
	long := withRoot(file(), 0, make([]api.Extent, 1<<22)...)
	deep := withRoot(file(), 1, long.Root...)
	many := make([]byte, 1<<24)
	for range 1000 {
		for _, x := range []api.Inode{long, deep} {
			is(t, "Check", inode.Check(x), api.ErrInode)
			b, e := inode.Put(goodTable, 0, x)
			noBytes(t, "Put", b, e, api.ErrInode)
		}
		x, e := inode.Decode(many)
		nothing(t, "Decode", x, e, api.ErrInode)
		x, e = inode.Get(many, 0)
		nothing(t, "Get", x, e, api.ErrArg)
	}
	for range 20 {
		is(t, "Same", inode.Same(long, withRoot(file(), 0, slices.Clone(long.Root)...)), true)
		is(t, "All", told(many), "")
	}
	table := goodTable
	for i := range 50000 {
		table, _ = inode.Put(table, i%4, file())
		x, _ := inode.Get(table, i%4)
		is(t, "Get", x.Size, 1000)
	}
	if took := time.Since(begun); took > 20*time.Second {
		t.Error("it took", took)
	}
}

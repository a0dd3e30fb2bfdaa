package inode_test

import (
	"bytes"
	"fmt"
	"math"
	"slices"
	"testing"

	"slipway/api"
	"slipway/inode"
)

// slotsOf is a table's slots, one behind the other; nil is one of zeros.
func slotsOf(slots ...[]byte) []byte {
	table := make([]byte, 64*len(slots))
	for i, b := range slots {
		copy(table[64*i:], b)
	}
	return table
}

// junk are bytes of a slot that are nothing that Encode makes.
func junk() [][]byte {
	l := [][]byte{bytes.Repeat([]byte{255}, 64), bytes.Repeat([]byte{1}, 64), append(make([]byte, 63), 1), append([]byte{3}, make([]byte, 63)...)}
	for _, x := range []api.Inode{with(file(), links, 1001), with(dir(), size, 255), {Links: 1}, withRoot(file(), 1), {Kind: 255}} {
		l = append(l, wire(x))
	}
	for _, at := range []int{3, 42, 63} {
		b := wire(file())
		b[at] = 9
		l = append(l, b)
	}
	return l
}

var goodTable = slotsOf(wire(file()), wire(dir()), nil, wire(api.Inode{Gen: 7}))

// wrongTables are ones of another length, which have slots all the same.
func wrongTables() [][]byte {
	return [][]byte{nil, {}, {0}, make([]byte, 63), wire(file()), make([]byte, 128), goodTable[:192], goodTable[:255], append(slices.Clone(goodTable), 0), slices.Concat(goodTable, wire(file())), slices.Concat(goodTable, goodTable), make([]byte, 1<<16+256)}
}

// Some of them, 64 times as great, are beyond an int's bits, and back among the bytes of a table.
var wrongSlots = []int{math.MinInt, math.MinInt + 1, math.MinInt32, -1 << 58, -256, -64, -4, -3, -1, 4, 5, 63, 64, 255, 256, 1 << 32, 1<<32 + 1, 1 << 58, 1<<58 + 1, math.MaxInt32, math.MaxInt - 1, math.MaxInt}

func TestP143Get(t *testing.T) {
	for slot, want := range []api.Inode{file(), dir(), {}, {Gen: 7}} {
		x, e := inode.Get(goodTable, slot)
		is(t, "Get", e, api.OK)
		is(t, "Get", alike(x, want), true)
	}
	for _, want := range good() {
		for slot := range 4 {
			x, e := inode.Get(inSlot(junk()[0], slot, wire(want)), slot)
			is(t, "Get of "+named(want), e, api.OK)
			is(t, "Get of "+named(want), alike(x, want), true)
		}
	}
}

// inSlot is a table with these bytes in a slot, and others in all others.
func inSlot(others []byte, slot int, b []byte) []byte {
	slots := slices.Repeat([][]byte{others}, 4)
	slots[slot] = b
	return slotsOf(slots...)
}

func TestP143GetRefuses(t *testing.T) {
	for _, table := range wrongTables() {
		for _, slot := range append([]int{0, 1, 2, 3}, wrongSlots...) {
			x, e := inode.Get(table, slot)
			nothing(t, fmt.Sprint("Get of ", len(table), " bytes, ", slot), x, e, api.ErrArg)
		}
	}
	for _, slot := range wrongSlots {
		for _, table := range [][]byte{goodTable, make([]byte, 256), bytes.Repeat([]byte{255}, 256)} {
			x, e := inode.Get(table, slot)
			nothing(t, fmt.Sprint("Get of ", slot), x, e, api.ErrArg)
		}
	}
	for _, b := range junk() {
		for slot := range 4 {
			x, e := inode.Get(inSlot(wire(file()), slot, b), slot)
			nothing(t, fmt.Sprintf("Get of % x", b), x, e, api.ErrInode)
		}
	}
}

func TestP143Put(t *testing.T) {
	tables := [][]byte{goodTable, make([]byte, 256), bytes.Repeat([]byte{255}, 256), slotsOf(junk()[:4]...), slotsOf(junk()[4:8]...)}
	for _, x := range good() {
		for _, table := range tables {
			for slot := range 4 {
				want := slices.Concat(table[:64*slot], wire(x), table[64*slot+64:])
				now, e := inode.Put(table, slot, x)
				is(t, "Put of "+named(x), e, api.OK)
				is(t, "Put of "+named(x), fmt.Sprintf("% x", now), fmt.Sprintf("% x", want))
			}
		}
	}
}

func TestP143PutRefuses(t *testing.T) {
	refused := append(wrong(), good()...)
	for _, table := range wrongTables() {
		for _, slot := range append([]int{0, 1, 2, 3}, wrongSlots...) {
			for _, x := range []api.Inode{{}, file(), wrong()[0], {Kind: 3}} {
				b, e := inode.Put(table, slot, x)
				noBytes(t, fmt.Sprint("Put to ", len(table), " bytes, ", slot), b, e, api.ErrArg)
			}
		}
	}
	// Also where the inode, too, is refused.
	for _, slot := range wrongSlots {
		for _, x := range refused {
			b, e := inode.Put(goodTable, slot, x)
			noBytes(t, fmt.Sprint("Put at ", slot), b, e, api.ErrArg)
		}
	}
	for slot := range 4 {
		for _, x := range wrong() {
			for _, table := range [][]byte{goodTable, bytes.Repeat([]byte{255}, 256)} {
				b, e := inode.Put(table, slot, x)
				noBytes(t, "Put of "+named(x), b, e, api.ErrInode)
			}
		}
	}
}

// told is what All tells, as a text.
func told(table []byte) string {
	said := ""
	for slot, x := range inode.All(table) {
		if x.Root == nil {
			x.Root = []api.Extent{}
		}
		said += fmt.Sprintf("%d: %+v\n", slot, x)
	}
	return said
}

// ought is what All ought to tell of a table.
func ought(table []byte) string {
	said := ""
	for slot := range 4 {
		x, ok := unwire(table[64*slot : 64*slot+64])
		if x.Root == nil {
			x.Root = []api.Extent{}
		}
		if ok && x.Kind != 0 {
			said += fmt.Sprintf("%d: %+v\n", slot, x)
		}
	}
	return said
}

// Each row of four slots that are a file, a directory, free, free and used before, or nothing that can be decoded.
func TestP143All(t *testing.T) {
	sorts := [][]byte{wire(file()), wire(dir()), nil, wire(api.Inode{Gen: 7}), junk()[0], junk()[5], junk()[6]}
	used := make([]int, 5)
	for n := range 7 * 7 * 7 * 7 {
		table := slotsOf(sorts[n%7], sorts[n/7%7], sorts[n/49%7], sorts[n/343])
		is(t, "All", told(table), ought(table))
		many := 0
		for range inode.All(table) {
			many++
		}
		used[many]++
	}
	// Two sorts of seven are told.
	is(t, "how many were told", fmt.Sprint(used), "[625 1000 600 160 16]")
	is(t, "all four", told(slotsOf(wire(file()), wire(dir()), wire(file()), wire(dir()))) != "", true)
}

func TestP143AllOfOtherLengths(t *testing.T) {
	for _, table := range wrongTables() {
		is(t, fmt.Sprint("All of ", len(table), " bytes"), told(table), "")
	}
}

// Left behind each number of inodes, and ranged over again.
func TestP143AllLeftEarly(t *testing.T) {
	table := slotsOf(wire(dir()), nil, wire(file()), wire(dir()))
	all := inode.All(table)
	for most := 1; most <= 3; most++ {
		var slots []int
		for slot := range all {
			slots = append(slots, slot)
			if len(slots) == most {
				break
			}
		}
		is(t, "left early", fmt.Sprint(slots), fmt.Sprint([]int{0, 2, 3}[:most]))
	}
	for range 2 {
		kinds := ""
		for slot, x := range all {
			kinds += fmt.Sprint(slot, x.Kind, " ")
			// One within the other goes its own way.
			for inner := range all {
				kinds += fmt.Sprint(inner)
				break
			}
		}
		is(t, "again", kinds, "0 2 02 1 03 2 0")
	}
}

// same asks both ways.
func same(t *testing.T, a, b api.Inode, want bool) {
	t.Helper()
	is(t, "Same of "+named(a)+" and "+named(b), inode.Same(a, b), want)
	is(t, "Same of "+named(b)+" and "+named(a), inode.Same(b, a), want)
}

func TestP143Same(t *testing.T) {
	all := append(good(), wrong()...)
	for _, a := range all {
		twin := a
		twin.Root = slices.Clone(a.Root)
		same(t, a, twin, true)
		for _, b := range all {
			same(t, a, b, alike(a, b))
		}
		for which := range numbers {
			for _, n := range []int64{math.MinInt64, -1, 0, 1, 2, 3, 256, 257, 1 << 32, 1<<32 + 1, math.MaxInt64} {
				b := with(twin, which, n)
				same(t, a, b, alike(a, b))
			}
		}
		if len(a.Root) == 0 {
			twin.Root = nil
			same(t, a, twin, true)
			twin.Root = []api.Extent{}
			same(t, a, twin, true)
		}
		twin.Root = append(slices.Clone(a.Root), api.Extent{})
		same(t, a, twin, false)
	}
}

// Each number of each one of Root counts, and how many there are, and in which order.
func TestP143SameOfRoots(t *testing.T) {
	for _, root := range [][]api.Extent{extents(4), entries(4), extents(5), {{}, {}}, {{Logical: -1, Len: math.MinInt, Phys: math.MaxInt}}} {
		for depth := range 4 {
			a := withRoot(file(), depth, root...)
			for i := range root {
				for _, change := range []func(*api.Extent){func(e *api.Extent) { e.Logical++ }, func(e *api.Extent) { e.Len++ }, func(e *api.Extent) { e.Phys++ }, func(e *api.Extent) { e.Phys += 1 << 32 }} {
					b := withRoot(file(), depth, slices.Clone(root)...)
					change(&b.Root[i])
					same(t, a, b, false)
				}
				same(t, a, withRoot(file(), depth, root[:i]...), false)
				same(t, a, withRoot(file(), depth, root[i+1:]...), false)
			}
			back := slices.Clone(root)
			slices.Reverse(back)
			same(t, a, withRoot(file(), depth, back...), slices.Equal(root, back))
		}
	}
}

package enode_test

import (
	"fmt"
	"math"
	"slices"
	"strings"
	"testing"
	"time"

	"slipway/api"
	"slipway/enode"
)

var oddNumbers = []int{math.MinInt, math.MinInt + 1, math.MinInt32, -65536, -1, 0, 1, 2, 27, 28, 4095, 4096, 4097, 8191, 8192, 65535, 65536, 65537, 1 << 24, math.MaxInt32, 1 << 32, math.MaxInt - 1, math.MaxInt}

// Whatever numbers are handed in: each call ends, none panics, and with an error all else is zero.
func TestR1AndR2OfNumbers(t *testing.T) {
	s := newStore(t)
	of := planted(s, times(5, 20), 5)
	for _, a := range oddNumbers {
		for _, b := range oddNumbers {
			for _, c := range oddNumbers {
				e := api.Extent{Logical: a, Len: b, Phys: c}
				x := of
				x.Depth, x.Root = b%4, []api.Extent{e}
				all(t, s.clone(), x)
				x.Depth, x.Root = c%4, []api.Extent{{Phys: firstNode}, e}
				all(t, s.clone(), x)
			}
			n := s.clone()
			y, gone, e := enode.Punch(n, of, a, b)
			is(t, "Punch", e == api.OK || zeroInode(y) && gone == nil, true)
			is(t, "Punch", e == api.OK, 0 <= a && a <= 65536 && b >= 0)
			x := of
			x.Kind, x.Links = a, b
			all(t, s.clone(), x)
		}
		for _, b := range []int{1, 2, 4096} {
			y, gone, e := enode.Put(s.clone(), of, api.Extent{Logical: a, Len: b, Phys: 5000 - b})
			is(t, "Put", e == api.OK || zeroInode(y) && gone == nil, true)
		}
	}
}

// all does all calls of an inode.
func all(t *testing.T, s api.Nodes, x api.Inode) {
	t.Helper()
	for call, do := range calls() {
		if got := do(s, x); got.e != api.OK && !got.zero {
			t.Fatalf("%s of %+v: %v, with something beside it", call, x, got.e)
		}
	}
}

// dull is a maker of nodes that no call made: its calls panic.
type dull struct{ blocks map[int][]byte }

func (d *dull) Read(block int) ([]byte, api.Errno) { return d.blocks[block], api.OK }

func (d *dull) Write(block int, b []byte) api.Errno {
	d.blocks[block] = b
	return api.OK
}

func (d *dull) Alloc() (int, api.Errno) { return len(d.blocks), api.OK }

func (d *dull) Free(block int) api.Errno { panic("Free") }

func TestR1OfNodesThatPanic(t *testing.T) {
	var none *dull
	s := newStore(t)
	x := planted(s, []int{20, 20})
	refuse(t, "no maker of nodes", none, x, api.ErrMade, true)
	y, gone, e := enode.Put(none, flat(4), single(4))
	is(t, "Put", e == api.ErrMade && zeroInode(y) && gone == nil, true)
	// A nil map: it can be read, but not written.
	y, gone, e = enode.Put(&dull{}, flat(4), single(4))
	is(t, "Put", e != api.OK && zeroInode(y) && gone == nil, true)
	y, gone, e = enode.Punch(&dull{blocks: s.blocks}, planted(s, []int{5}), 0, 1)
	is(t, "Punch", e == api.ErrMade && zeroInode(y) && gone == nil, true)
}

func TestR5(t *testing.T) {
	s := newStore(t)
	for _, x := range []api.Inode{{}, {Kind: 9}, flat(0), flat(4), planted(s, []int{5}), planted(s, times(5, 20), 5)} {
		refuse(t, "nil", nil, x, api.ErrMade, true)
		_, _, _, e := enode.At(nil, x, -1)
		is(t, "At", e, api.ErrMade)
		_, _, e = enode.Put(nil, x, api.Extent{})
		is(t, "Put", e, api.ErrMade)
		_, _, e = enode.Punch(nil, x, -1, -1)
		is(t, "Punch", e, api.ErrMade)
	}
}

// roomy is a list with room behind it, in which something stands.
func roomy(l []api.Extent) ([]api.Extent, []api.Extent) {
	whole := append(slices.Clone(l), api.Extent{Logical: 7, Len: 7, Phys: 7}, api.Extent{Logical: 8, Len: 8, Phys: 8}, api.Extent{Logical: 9, Len: 9, Phys: 9})
	return whole[:len(l)], whole
}

// scribble writes on all that a list reaches, also behind its end.
func scribble(l []api.Extent) {
	l = l[:cap(l)]
	for i := range l {
		l[i] = api.Extent{Logical: -7, Len: -7, Phys: -7}
	}
}

// What is handed in is not written to, nor what stands behind it; the store looks after its own bytes.
func TestR3HandedIn(t *testing.T) {
	for name, fresh := range trees(t) {
		for call, do := range calls() {
			s, x := fresh()
			var whole []api.Extent
			x.Root, whole = roomy(x.Root)
			was := fmt.Sprint(x, whole)
			do(s, x)
			is(t, call+" of "+name, fmt.Sprint(x, whole), was)
			s.intact()
		}
	}
	for _, n := range goodNodes() {
		var whole []api.Extent
		n.Entries, whole = roomy(n.Entries)
		was := fmt.Sprint(n, whole)
		enode.Encode(n)
		is(t, "the node", fmt.Sprint(n, whole), was)
		b := append(wire(n), 1, 2, 3)
		enode.Decode(b[:256])
		is(t, "the bytes", string(b), string(wire(n))+"\x01\x02\x03")
	}
}

// What was handed in is not kept, and what is answered is nobody's else.
func TestR3Answers(t *testing.T) {
	for name, fresh := range trees(t) {
		s, x := fresh()
		was := fmt.Sprint(x)
		want := look(s, x)
		for range 2 {
			l, _ := enode.Load(s, x)
			scribble(l)
			blocks, _ := enode.Blocks(s, x)
			blocks = blocks[:cap(blocks)]
			for i := range blocks {
				blocks[i] = -1
			}
			is(t, name, fmt.Sprint(x), was)
			s.intact()
		}
		l, _ := enode.Load(s, x)
		is(t, name, fmt.Sprint(l), fmt.Sprint(want.extents))
		// Also where nothing is changed.
		for _, n := range []int{0, 1, 65536} {
			s, x := fresh()
			y, gone, e := enode.Punch(s, x, 0, n)
			is(t, name, e, api.OK)
			again := fmt.Sprint(y, gone)
			z, more, _ := enode.Punch(s, y, 0, 0)
			root := fmt.Sprint(y)
			scribble(z.Root)
			scribble(more)
			is(t, name, fmt.Sprint(y), root)
			is(t, name, fmt.Sprint(y, gone), again)
			scribble(y.Root)
			is(t, name, fmt.Sprint(x), was)
			is(t, name, fmt.Sprint(gone), again[len(root)+1:])
			scribble(gone)
			is(t, name, fmt.Sprint(x), was)
		}
	}
	n := goodNodes()[0]
	first, _ := enode.Encode(n)
	second, _ := enode.Encode(n)
	m, _ := enode.Decode(first)
	o, _ := enode.Decode(first)
	clear(first[:cap(first)])
	scribble(m.Entries)
	is(t, "another answer", string(second), string(wire(n)))
	is(t, "another answer", same(o, n), true)
}

// What is written is the store's own: whatever it does with one block's bytes, no other has them.
func TestR3Written(t *testing.T) {
	s := newStore(t)
	x := planted(s, times(4, 27))
	y, _, e := enode.Put(s, x, single(108))
	is(t, "Put", e, api.OK)
	written := s.calls["Write"]
	is(t, "writes", len(written), 3)
	for _, block := range written {
		b := s.blocks[block]
		was := slices.Clone(b)
		b = b[:cap(b)]
		for i := range b {
			b[i] = 0x77
		}
		s.lay(block, was)
		s.intact()
	}
	sound(t, s, y)
}

// Empty and nil lists are the same.
func TestR4(t *testing.T) {
	none, empty := flat(0), flat(0)
	none.Root, empty.Root = nil, []api.Extent{}
	for _, n := range []int{0, 1} {
		said := func(x api.Inode) string {
			s := newStore(t)
			var text strings.Builder
			l, e := enode.Load(s, x)
			blocks, f := enode.Blocks(s, x)
			text.WriteString(fmt.Sprintln(len(l), e, len(blocks), f))
			text.WriteString(fmt.Sprintln(enode.At(s, x, n)))
			text.WriteString(fmt.Sprintln(enode.Put(s, x, single(n))))
			text.WriteString(fmt.Sprintln(enode.Punch(s, x, n, n)))
			x.Depth = 1
			text.WriteString(fmt.Sprintln(enode.Load(s, x)))
			return text.String()
		}
		is(t, "an inode without extents", said(none), said(empty))
	}
	for depth := range 2 {
		for _, l := range [][]api.Extent{nil, {}} {
			unencoded(t, api.Node{Depth: depth, Entries: l})
		}
	}
}

func TestR6(t *testing.T) {
	told := func() string {
		var s stream = 31
		var text strings.Builder
		nodes := newStore(t)
		x := planted(nodes, times(28, 20), 14, 14)
		for range 120 {
			var gone []api.Extent
			var e api.Errno
			y := x
			if k := s.below(1200); s.below(2) == 0 {
				y, gone, e = enode.Punch(nodes, x, k, s.below(60))
			} else {
				y, gone, e = enode.Put(nodes, x, api.Extent{Logical: k, Len: 1 + s.below(3), Phys: 1 + s.below(7000)})
			}
			if e == api.OK {
				x = y
			}
			text.WriteString(fmt.Sprint(y, gone, e, nodes.calls))
			nodes.quiet()
		}
		return text.String() + nodes.image()
	}
	is(t, "the same calls", told() == told(), true)
}

// What is far too long is refused in time; what is not is done in time, and reads no node twice.
func TestTheBound(t *testing.T) {
	begun := time.Now()
	long := api.Inode{Kind: api.KindFile, Root: make([]api.Extent, 1<<22)}
	deep := long
	deep.Depth = 2
	s := newStore(t)
	for range 1000 {
		for depth := range 2 {
			unencoded(t, api.Node{Depth: depth, Entries: long.Root})
		}
		for _, x := range []api.Inode{long, deep} {
			_, e := enode.Load(s, x)
			is(t, "Load", e, api.ErrInode)
			_, _, e = enode.Put(s, x, single(1))
			is(t, "Put", e, api.ErrInode)
		}
	}
	many := make([]byte, 1<<24)
	for range 1000 {
		undecoded(t, "many", many)
	}
	x := planted(s, times(108, 27), 27, 27, 27, 27)
	for _, call := range []string{"Load", "Blocks", "Put", "Punch"} {
		s.quiet()
		calls()[call](s, x)
		is(t, call+": reads", s.many("Read"), 112)
		reads := slices.Clone(s.calls["Read"])
		slices.Sort(reads)
		is(t, call+": reads", len(slices.Compact(reads)), 112)
		s = newStore(t)
		x = planted(s, times(108, 27), 27, 27, 27, 27)
	}
	for range 200 {
		_, e := enode.Load(s, x)
		is(t, "Load", e, api.OK)
	}
	if took := time.Since(begun); took > 20*time.Second {
		t.Error("it took", took)
	}
}

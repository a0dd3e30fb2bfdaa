package enode_test

import (
	"bytes"
	"fmt"
	"math"
	"slices"
	"testing"

	"slipway/api"
	"slipway/enode"
)

// wire is P15.1's bytes of a node, made without the program's help.
func wire(n api.Node) []byte {
	b := []byte{0x53, 0x4e, byte(n.Depth), byte(len(n.Entries))}
	for _, e := range n.Entries {
		b = append(b, byte(e.Logical>>16), byte(e.Logical>>8), byte(e.Logical), byte(e.Len>>8), byte(e.Len))
		b = append(b, byte(e.Phys>>24), byte(e.Phys>>16), byte(e.Phys>>8), byte(e.Phys))
	}
	return append(b, make([]byte, max(0, 256-len(b)))...)
}

// unwire is the node of some bytes, and whether they are ones that P15.1 tells of.
func unwire(b []byte) (api.Node, bool) {
	if len(b) != 256 || b[0] != 0x53 || b[1] != 0x4e || b[3] > 27 {
		return api.Node{}, false
	}
	n := api.Node{Depth: int(b[2])}
	rest := b[4:]
	number := func(many int) int {
		x := 0
		for _, digit := range rest[:many] {
			x = x<<8 | int(digit)
		}
		rest = rest[many:]
		return x
	}
	for range b[3] {
		n.Entries = append(n.Entries, api.Extent{Logical: number(3), Len: number(2), Phys: number(4)})
	}
	for _, left := range rest {
		if left != 0 {
			return api.Node{}, false
		}
	}
	return n, nodeMayBe(n)
}

func nodeMayBe(n api.Node) bool {
	if len(n.Entries) < 1 || len(n.Entries) > 27 {
		return false
	}
	if n.Depth == 0 {
		return extentsMayBe(n.Entries)
	}
	last := -1
	for _, e := range n.Entries {
		if e.Len != 0 || e.Logical <= last || e.Logical > 65535 || e.Phys < 1 || e.Phys > 8191 {
			return false
		}
		last = e.Logical
	}
	return n.Depth == 1
}

// extentsMayBe is what extent.Check is to tell.
func extentsMayBe(l []api.Extent) bool {
	end, was := 0, api.Extent{}
	for _, e := range l {
		if e.Len < 1 || e.Len > 4096 || e.Logical < end || e.Logical > 65536-e.Len || e.Phys < 1 || e.Phys > 8192-e.Len {
			return false
		}
		if e.Logical == was.Logical+was.Len && e.Phys == was.Phys+was.Len && was.Len+e.Len <= 4096 {
			return false
		}
		end, was = e.Logical+e.Len, e
	}
	return true
}

func same(a, b api.Node) bool {
	return a.Depth == b.Depth && slices.Equal(a.Entries, b.Entries)
}

// there fails if a node is not encoded as these bytes, or they are not decoded as it.
func there(t *testing.T, n api.Node, want []byte) {
	t.Helper()
	b, e := enode.Encode(n)
	if e != api.OK || !bytes.Equal(b, want) {
		t.Fatalf("Encode of %+v: % x, %v, want % x", n, b, e, want)
	}
	m, e := enode.Decode(want)
	if e != api.OK || !same(m, n) {
		t.Fatalf("Decode of % x: %+v, %v, want %+v", want, m, e, n)
	}
}

func unencoded(t *testing.T, n api.Node) {
	t.Helper()
	b, e := enode.Encode(n)
	if b != nil || e != 150 {
		t.Fatalf("Encode of %+v: % x, %v", n, b, e)
	}
}

func undecoded(t *testing.T, name string, b []byte) {
	t.Helper()
	n, e := enode.Decode(b)
	if e != 150 || n.Depth != 0 || n.Entries != nil {
		t.Fatalf("Decode of %s: %+v, %v", name, n, e)
	}
}

// entries are n of an index.
func entries(n int) []api.Extent {
	var l []api.Extent
	for k := range n {
		l = append(l, api.Extent{Logical: 300 * k, Phys: 8191 - 5*k})
	}
	return l
}

func goodNodes() []api.Node {
	l := []api.Node{
		{Entries: []api.Extent{{Len: 1, Phys: 1}}}, {Entries: []api.Extent{{Logical: 65535, Len: 1, Phys: 8191}}},
		{Entries: []api.Extent{{Len: 4096, Phys: 1}, {Logical: 4096, Len: 4095, Phys: 4097}, {Logical: 61440, Len: 4096, Phys: 4096}}},
		{Depth: 1, Entries: []api.Extent{{Phys: 1}}}, {Depth: 1, Entries: []api.Extent{{Logical: 65535, Phys: 8191}}},
		{Depth: 1, Entries: []api.Extent{{Phys: 8191}, {Logical: 1, Phys: 1}, {Logical: 2, Phys: 1}, {Logical: 65534, Phys: 8191}, {Logical: 65535, Phys: 8190}}},
	}
	for _, n := range []int{1, 2, 3, 14, 26, 27} {
		l = append(l, api.Node{Entries: singles(n)}, api.Node{Depth: 1, Entries: entries(n)})
	}
	return l
}

func TestP151Bytes(t *testing.T) {
	there(t, api.Node{Entries: []api.Extent{{Logical: 1, Len: 2, Phys: 3}}}, append([]byte{0x53, 0x4e, 0, 1, 0, 0, 1, 0, 2, 0, 0, 0, 3}, make([]byte, 243)...))
	there(t, api.Node{Entries: []api.Extent{{Logical: 0x102, Len: 0x304, Phys: 0x506}, {Logical: 0xfedc, Len: 0x100, Phys: 0x1eff}}}, append([]byte{
		0x53, 0x4e, 0, 2, 0, 1, 2, 3, 4, 0, 0, 5, 6, 0, 0xfe, 0xdc, 1, 0, 0, 0, 0x1e, 0xff}, make([]byte, 234)...))
	there(t, api.Node{Depth: 1, Entries: []api.Extent{{Phys: 0x1fff}, {Logical: 0x0a0b, Phys: 0x102}, {Logical: 0xffff, Phys: 1}}}, append([]byte{
		0x53, 0x4e, 1, 3, 0, 0, 0, 0, 0, 0, 0, 0x1f, 0xff, 0, 0xa, 0xb, 0, 0, 0, 0, 1, 2, 0, 0xff, 0xff, 0, 0, 0, 0, 0, 1}, make([]byte, 225)...))
	for _, n := range goodNodes() {
		there(t, n, wire(n))
	}
	for n := range 28 {
		if n > 0 {
			there(t, api.Node{Entries: singles(n)}, wire(api.Node{Entries: singles(n)}))
			there(t, api.Node{Depth: 1, Entries: entries(n)}, wire(api.Node{Depth: 1, Entries: entries(n)}))
		}
	}
}

func TestP151EncodeOfDepthsAndCounts(t *testing.T) {
	for _, depth := range []int{math.MinInt, -256, -255, -1, 2, 3, 255, 256, 257, 1 << 32, 1<<32 + 1, math.MaxInt} {
		for _, l := range [][]api.Extent{nil, singles(1), entries(1), singles(27), entries(27)} {
			unencoded(t, api.Node{Depth: depth, Entries: l})
		}
	}
	for depth := -1; depth <= 2; depth++ {
		for _, n := range []int{0, 1, 2, 26, 27, 28, 29, 256, 257, 283} {
			l := [2][]api.Extent{singles(n), entries(min(n, 200))}
			for k, l := range l {
				node := api.Node{Depth: depth, Entries: l}
				if depth == k && 1 <= n && n <= 27 {
					there(t, node, wire(node))
				} else {
					unencoded(t, node)
				}
			}
		}
	}
	for depth := range 2 {
		unencoded(t, api.Node{Depth: depth, Entries: []api.Extent{}})
	}
}

// Leaves with entries that extent.Check refuses, each for one reason, at each place.
func TestP151EncodeOfLeaves(t *testing.T) {
	odd := []int{math.MinInt, -65536, -1, 0, 1, 2, 4096, 4097, 8191, 8192, 65535, 65536, 1 << 24, 1 << 32, math.MaxInt}
	for _, a := range odd {
		for _, b := range odd {
			for _, c := range odd {
				one := api.Extent{Logical: a, Len: b, Phys: c}
				for _, l := range [][]api.Extent{{one}, {single(0), one}, {one, single(30)}, append(singles(26), one)} {
					if node := (api.Node{Entries: l}); extentsMayBe(l) {
						there(t, node, wire(node))
					} else {
						unencoded(t, node)
					}
				}
			}
		}
	}
	for _, l := range [][]api.Extent{
		{{Len: 1, Phys: 5}, {Logical: 1, Len: 1, Phys: 6}}, {{Len: 4000, Phys: 5}, {Logical: 4000, Len: 96, Phys: 4005}},
		{{Len: 2, Phys: 5}, {Logical: 1, Len: 1, Phys: 9}}, {{Logical: 4, Len: 1, Phys: 5}, {Len: 1, Phys: 9}}, {single(3), single(3)},
	} {
		unencoded(t, api.Node{Entries: l})
		unencoded(t, api.Node{Depth: 1, Entries: l})
	}
}

func TestP151EncodeOfIndexes(t *testing.T) {
	for _, logical := range []int{math.MinInt, -65536, -1, 0, 1, 65534, 65535, 65536, 1 << 24, 1 << 32, math.MaxInt} {
		for _, many := range []int{math.MinInt, -1, 0, 1, 2, 65536, 1 << 32, math.MaxInt} {
			for _, phys := range []int{math.MinInt, -1, 0, 1, 2, 8190, 8191, 8192, 1 << 32, 1<<32 + 1, math.MaxInt} {
				one := api.Extent{Logical: logical, Len: many, Phys: phys}
				for _, l := range [][]api.Extent{{one}, {{Phys: 1}, one}, {one, {Logical: 65535, Phys: 9}}, append(entries(26), one)} {
					if node := (api.Node{Depth: 1, Entries: l}); nodeMayBe(node) {
						there(t, node, wire(node))
					} else {
						unencoded(t, node)
					}
				}
			}
		}
	}
	for at := range 27 {
		for _, x := range []api.Extent{{Logical: 300*at - 300, Phys: 7}, {Logical: 300*at - 301, Phys: 7}, {Logical: 300*at + 300, Phys: 7}, {Logical: 300*at + 301, Phys: 7}} {
			l := entries(27)
			l[at] = x
			if node := (api.Node{Depth: 1, Entries: l}); nodeMayBe(node) {
				there(t, node, wire(node))
			} else {
				unencoded(t, node)
			}
		}
	}
}

func TestP151DecodeOfLengths(t *testing.T) {
	undecoded(t, "nil", nil)
	undecoded(t, "no bytes", []byte{})
	undecoded(t, "zeros", make([]byte, 256))
	undecoded(t, "1s", bytes.Repeat([]byte{255}, 256))
	for _, n := range goodNodes() {
		b := wire(n)
		for _, many := range []int{1, 3, 4, 13, 64, 247, 255} {
			undecoded(t, "too few", b[:many])
		}
		undecoded(t, "one more", append(slices.Clone(b), 0))
		undecoded(t, "one ahead", append([]byte{0}, b...))
		undecoded(t, "twice", slices.Concat(b, b))
	}
}

// Each byte of a node's, turned into each other one: what the bytes say then may be, or not.
func TestP151DecodeOfTurnedBytes(t *testing.T) {
	taken, refused := 0, 0
	for _, n := range goodNodes() {
		for at := range 256 {
			for _, turn := range []byte{1, 2, 3, 4, 8, 16, 26, 27, 32, 64, 128, 255} {
				b := wire(n)
				b[at] ^= turn
				if want, ok := unwire(b); ok {
					taken++
					there(t, want, b)
				} else {
					refused++
					undecoded(t, fmt.Sprintf("% x", b), b)
				}
			}
		}
	}
	if taken < 1000 || refused < 10000 {
		t.Error("too few of one sort:", taken, refused)
	}
}

// The magic number, the depth and the count alone, each with all of its values.
func TestP151DecodeOfHeads(t *testing.T) {
	for _, n := range []api.Node{{Entries: singles(1)}, {Entries: singles(27)}, {Depth: 1, Entries: entries(1)}, {Depth: 1, Entries: entries(27)}} {
		for at := range 4 {
			for value := range 256 {
				b := wire(n)
				if int(b[at]) == value {
					continue
				}
				b[at] = byte(value)
				undecoded(t, fmt.Sprint("byte ", at, " as ", value), b)
			}
		}
	}
}

// The bytes that no field has are 0.
func TestP151DecodeOfZeros(t *testing.T) {
	for _, n := range goodNodes() {
		for at := 4 + 9*len(n.Entries); at < 256; at++ {
			for _, value := range []byte{1, 0x80, 0xff} {
				b := wire(n)
				b[at] = value
				undecoded(t, fmt.Sprint("byte ", at), b)
			}
		}
	}
}

// anyNode is one that may be.
func (s *stream) anyNode() api.Node {
	n := api.Node{Depth: s.below(2)}
	from := s.below(2) * s.below(30000)
	for range 1 + s.below(27) {
		e := api.Extent{Logical: from, Phys: 1 + s.below(8191)}
		if n.Depth == 0 {
			e.Len = 1 + s.below(min(500, 8192-e.Phys))
		}
		n.Entries = append(n.Entries, e)
		from += e.Len + 1 + s.below(2)*s.below(400)
	}
	return n
}

// What is encoded is decoded as it was; nothing else has those bytes.
func TestP151ThereAndBack(t *testing.T) {
	var s stream = 1
	for range 4000 {
		n := s.anyNode()
		if !nodeMayBe(n) {
			t.Fatal("the test makes what may not be:", n)
		}
		there(t, n, wire(n))
		b := wire(n)
		b[s.below(256)] ^= byte(1 + s.below(255))
		if want, ok := unwire(b); ok {
			there(t, want, b)
		} else {
			undecoded(t, fmt.Sprintf("% x", b), b)
		}
	}
}

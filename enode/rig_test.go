package enode_test

import (
	"fmt"
	"maps"
	"slices"
	"strconv"
	"strings"
	"testing"

	"slipway/api"
)

func is[T comparable](t *testing.T, name string, got, want T) {
	t.Helper()
	if got != want {
		t.Errorf("%s: %v, want %v", name, got, want)
	}
}

// stream gives numbers that look mixed and are the same in every run.
type stream uint64

func (s *stream) next() uint64 {
	*s = *s*6364136223846793005 + 1442695040888963407
	return uint64(*s >> 33)
}

func (s *stream) below(n int) int { return int(s.next() % uint64(n)) }

// order are the numbers below n, mixed.
func (s *stream) order(n int) []int {
	l := make([]int, n)
	for i := range l {
		l[i] = i
	}
	for i := range l {
		k := s.below(i + 1)
		l[i], l[k] = l[k], l[i]
	}
	return l
}

const (
	firstNode = 7900 // store gives blocks from here on
	broken    = api.Errno(999)
)

// fault is a call that fails: the how-many-th one of its kind, from 1 on.
type fault struct {
	call string
	at   int
	e    api.Errno
}

// store is where nodes stand: what a call of it was given, and what it answered, is its own to keep, and watched.
type store struct {
	t      *testing.T
	blocks map[int][]byte // of each block that is given what was written to it
	laid   map[int]string // the same, out of reach
	calls  map[string][]int
	faults []fault
	most   int // it gives so many blocks
}

func newStore(t *testing.T) *store {
	return &store{t: t, blocks: map[int][]byte{}, laid: map[int]string{}, calls: map[string][]int{}, most: 250}
}

// count notes a call, and is its fault.
func (s *store) count(call string, block int) api.Errno {
	s.calls[call] = append(s.calls[call], block)
	for _, f := range s.faults {
		if f.call == call && f.at == len(s.calls[call]) {
			return f.e
		}
	}
	return api.OK
}

func (s *store) given(block int) {
	s.t.Helper()
	if _, ok := s.blocks[block]; !ok {
		s.t.Fatalf("block %d is not allocated", block)
	}
}

func (s *store) Read(block int) ([]byte, api.Errno) {
	if e := s.count("Read", block); e != api.OK {
		// What stands beside an error counts for nothing.
		return s.blocks[block], e
	}
	return s.blocks[block], api.OK
}

func (s *store) Write(block int, b []byte) api.Errno {
	if e := s.count("Write", block); e != api.OK {
		return e
	}
	s.given(block)
	s.blocks[block], s.laid[block] = b, string(b)
	return api.OK
}

func (s *store) Alloc() (int, api.Errno) {
	block := firstNode
	for s.blocks[block] != nil {
		block++
	}
	if e := s.count("Alloc", block); e != api.OK {
		return block, e
	}
	if len(s.blocks) >= s.most {
		return 0, api.ErrFull
	}
	s.lay(block, []byte("fresh"))
	return block, api.OK
}

func (s *store) Free(block int) api.Errno {
	if e := s.count("Free", block); e != api.OK {
		return e
	}
	s.given(block)
	delete(s.blocks, block)
	delete(s.laid, block)
	return api.OK
}

func (s *store) lay(block int, b []byte) {
	s.blocks[block], s.laid[block] = b, string(b)
}

// quiet forgets which calls there were, and which are to fail.
func (s *store) quiet() {
	s.calls, s.faults = map[string][]int{}, nil
}

// fails makes the how-many-th call of a kind fail, from now on.
func (s *store) fails(call string, at int, e api.Errno) {
	s.quiet()
	s.faults = []fault{{call, at, e}}
}

// many is how many calls of a kind there were.
func (s *store) many(call string) int { return len(s.calls[call]) }

// intact fails if bytes are others than those that were written.
func (s *store) intact() {
	s.t.Helper()
	for block, b := range s.blocks {
		if string(b) != s.laid[block] {
			s.t.Fatalf("the bytes of block %d were changed behind its back", block)
		}
	}
}

// image is all blocks and what they have.
func (s *store) image() string {
	s.t.Helper()
	s.intact()
	var text strings.Builder
	for _, block := range s.used() {
		text.WriteString(strconv.Itoa(block) + " " + strconv.Itoa(len(s.laid[block])) + " " + s.laid[block])
	}
	return text.String()
}

// used are the blocks that were allocated and not freed, rising.
func (s *store) used() []int { return slices.Sorted(maps.Keys(s.blocks)) }

// clone is a store like it, which goes its own way.
func (s *store) clone() *store {
	c := newStore(s.t)
	c.most = s.most
	for block, b := range s.blocks {
		c.lay(block, slices.Clone(b))
	}
	return c
}

// single is a block of a file that joins with none that single makes.
func single(k int) api.Extent { return api.Extent{Logical: 2 * k, Len: 1, Phys: 10 + 2*k} }

// singles are n of those.
func singles(n int) []api.Extent {
	var l []api.Extent
	for k := range n {
		l = append(l, single(k))
	}
	return l
}

// cut is a list as pieces that are so long.
func cut(l []api.Extent, lengths ...int) [][]api.Extent {
	var pieces [][]api.Extent
	for _, n := range lengths {
		pieces = append(pieces, l[:n:n])
		l = l[n:]
	}
	return pieces
}

func sum(l []int) int {
	n := 0
	for _, x := range l {
		n += x
	}
	return n
}

// plant lays a tree by hand: these leaves, and, if any are asked for, indexes that have so many of them each.
func plant(s *store, leaves [][]api.Extent, fans ...int) api.Inode {
	x := api.Inode{Kind: api.KindFile, Links: 1, Size: 1000, Gen: 3, Depth: 1, Root: plantLevel(s, 0, leaves)}
	if len(fans) > 0 {
		x.Depth, x.Root = 2, plantLevel(s, 1, cut(x.Root, fans...))
	}
	s.quiet()
	return x
}

// plantLevel lays nodes, and is the entries that tell where they stand.
func plantLevel(s *store, depth int, nodes [][]api.Extent) []api.Extent {
	var entries []api.Extent
	for _, l := range nodes {
		block, _ := s.Alloc()
		s.lay(block, wire(api.Node{Depth: depth, Entries: l}))
		entries = append(entries, api.Extent{Logical: l[0].Logical, Phys: block})
	}
	return entries
}

// planted is a tree of singles in leaves that are so long.
func planted(s *store, lengths []int, fans ...int) api.Inode {
	return plant(s, cut(singles(sum(lengths)), lengths...), fans...)
}

// times is a list of n times the same.
func times(n, x int) []int { return slices.Repeat([]int{x}, n) }

func flat(n int) api.Inode {
	return api.Inode{Kind: api.KindFile, Links: 1, Root: singles(n)}
}

// looked is what stands in a tree, found without the program's help.
type looked struct {
	extents []api.Extent
	leaves  []int // how many extents each leaf has
	fans    []int // how many leaves each index has
	nodes   []int // the blocks of all nodes, rising
	wrong   string
}

// look goes through a tree, and says what of it may not be.
func look(s *store, x api.Inode) looked {
	var l looked
	if x.Depth == 0 {
		l.extents = x.Root
	}
	for _, entry := range x.Root {
		if x.Depth > 0 {
			l.beneath(s, entry, x.Depth-1)
		}
	}
	slices.Sort(l.nodes)
	l.judge(x)
	return l
}

func (l *looked) beneath(s *store, entry api.Extent, depth int) {
	l.nodes = append(l.nodes, entry.Phys)
	n, ok := unwire(s.blocks[entry.Phys])
	if !ok || n.Depth != depth || n.Entries[0].Logical != entry.Logical || entry.Len != 0 {
		l.wrong = fmt.Sprintf("the node of %v", entry)
		return
	}
	if depth == 0 {
		l.extents = append(l.extents, n.Entries...)
		l.leaves = append(l.leaves, len(n.Entries))
		return
	}
	l.fans = append(l.fans, len(n.Entries))
	for _, below := range n.Entries {
		l.beneath(s, below, depth-1)
	}
}

func (l *looked) judge(x api.Inode) {
	blame := func(bad bool, why string) {
		if bad {
			l.wrong += why + "; "
		}
	}
	blame(!extentsMayBe(l.extents), "the extents")
	var ahead [8193]int // how many nodes stand ahead of a block
	for i, block := range l.nodes {
		blame(i > 0 && l.nodes[i-1] == block, "a block twice")
		ahead[block+1]++
	}
	for block := range 8192 {
		ahead[block+1] += ahead[block]
	}
	for _, e := range l.extents {
		blame(e.Phys > 0 && e.Phys+e.Len <= 8192 && ahead[e.Phys+e.Len] > ahead[e.Phys], "a node in an extent")
	}
	need := 2
	if len(l.leaves) <= 4 {
		need = 1
	}
	if len(l.extents) <= 4 {
		need = 0
	}
	blame(x.Depth != need, "the depth")
	blame(len(x.Root) > 4, "the root")
	for _, row := range [][]int{l.leaves, l.fans} {
		for i, n := range row {
			blame(n < 1 || n > 27, "a node's length")
			blame(i > 0 && n+row[i-1] <= 27, "two nodes that could be one")
		}
	}
}

// sound fails if a tree may not be, or its nodes are not just the blocks that are allocated.
func sound(t *testing.T, s *store, x api.Inode) looked {
	t.Helper()
	l := look(s, x)
	if l.wrong != "" {
		t.Fatalf("the tree: %s (leaves %v, indexes %v)", l.wrong, l.leaves, l.fans)
	}
	if !slices.Equal(l.nodes, s.used()) {
		t.Fatalf("nodes %v, but %v are allocated", l.nodes, s.used())
	}
	return l
}

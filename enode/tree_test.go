package enode_test

import (
	"fmt"
	"math"
	"slices"
	"testing"

	"slipway/api"
	"slipway/enode"
	"slipway/extent"
)

// answer is what a call of a tree answered, as far as all of them are alike.
type answer struct {
	e    api.Errno
	zero bool // all beside the error is the zero value
}

func zeroInode(x api.Inode) bool {
	return fmt.Sprint(x) == fmt.Sprint(api.Inode{}) && x.Root == nil
}

// calls are all calls of a tree, by name.
func calls() map[string]func(s api.Nodes, x api.Inode) answer {
	return map[string]func(s api.Nodes, x api.Inode) answer{
		"Load": func(s api.Nodes, x api.Inode) answer {
			l, e := enode.Load(s, x)
			return answer{e, l == nil}
		},
		"At": func(s api.Nodes, x api.Inode) answer {
			at, n, is, e := enode.At(s, x, 2)
			return answer{e, at == 0 && n == 0 && !is}
		},
		"Blocks": func(s api.Nodes, x api.Inode) answer {
			l, e := enode.Blocks(s, x)
			return answer{e, l == nil}
		},
		"Put": func(s api.Nodes, x api.Inode) answer {
			y, gone, e := enode.Put(s, x, api.Extent{Logical: 3, Len: 1, Phys: 5})
			return answer{e, zeroInode(y) && gone == nil}
		},
		"Punch": func(s api.Nodes, x api.Inode) answer {
			y, gone, e := enode.Punch(s, x, 2, 1)
			return answer{e, zeroInode(y) && gone == nil}
		},
	}
}

// refuse fails if a call, or one but At, does not answer this error, or if it does anything to the store but read.
func refuse(t *testing.T, name string, s api.Nodes, x api.Inode, want api.Errno, at bool) {
	t.Helper()
	watched, _ := s.(*store)
	for call, do := range calls() {
		if call == "At" && !at {
			continue
		}
		was := ""
		if watched != nil {
			watched.calls = map[string][]int{}
			was = watched.image()
		}
		if got := do(s, x); got.e != want || !got.zero {
			t.Errorf("%s of %s: %v, %v, want %v", call, name, got.e, got.zero, want)
		}
		if watched != nil && (watched.image() != was || watched.many("Write")+watched.many("Alloc")+watched.many("Free") > 0) {
			t.Errorf("%s of %s changes something", call, name)
		}
	}
}

func TestP152ErrorsOfInodes(t *testing.T) {
	s := newStore(t)
	x := planted(s, []int{5})
	free := api.Inode{Gen: 7}
	bad := map[string]api.Inode{"a kind": {Kind: 3}, "a depth": {Kind: 1, Depth: 3, Root: x.Root}, "no entries": {Kind: 1, Depth: 1}, "too many": flat(5),
		"extents with a depth": {Kind: 1, Depth: 1, Root: singles(2)}, "entries without": {Kind: 1, Root: x.Root}, "of extents": {Kind: 1, Root: []api.Extent{{Len: 1, Phys: 1}, {Logical: 1, Len: 1, Phys: 2}}},
		"a free one with a size": {Size: 5}, "a directory's size": {Kind: 2, Size: 5}, "many": {Kind: 1, Depth: 1, Root: make([]api.Extent, 1<<20)}}
	for name, x := range bad {
		refuse(t, name, s, x, api.ErrInode, true)
		refuse(t, name, nil, x, api.ErrMade, true)
	}
	refuse(t, "a free inode", s, free, api.ErrArg, true)
	refuse(t, "a free inode", nil, free, api.ErrMade, true)
	for _, x := range []api.Inode{x, flat(0), flat(4), {Kind: 2, Links: 1, Size: 512}} {
		refuse(t, "no nodes", nil, x, api.ErrMade, true)
	}
}

// Trees of all depths that may be.
func trees(t *testing.T) map[string]func() (*store, api.Inode) {
	of := func(lengths []int, fans ...int) func() (*store, api.Inode) {
		return func() (*store, api.Inode) {
			s := newStore(t)
			return s, planted(s, lengths, fans...)
		}
	}
	l := map[string]func() (*store, api.Inode){
		"one leaf": of([]int{5}), "a full leaf": of([]int{27}), "two leaves": of([]int{1, 27}), "two like ones": of([]int{14, 14}),
		"four leaves": of([]int{27, 1, 27, 1}), "four full ones": of(times(4, 27)),
		"an index": of([]int{27, 1, 27, 1, 27}, 5), "a full index": of(times(27, 14), 27), "an index of full leaves": of(times(27, 27), 27),
		"two indexes": of(times(28, 14), 27, 1), "two others": of(times(28, 14), 1, 27), "two like indexes": of(times(28, 14), 14, 14),
		"four indexes": of(times(56, 14), 27, 1, 27, 1), "four like ones": of(times(56, 14), 14, 14, 14, 14), "all that there is room for": of(times(108, 27), 27, 27, 27, 27),
	}
	for n := range 5 {
		l[fmt.Sprint("no nodes, extents: ", n)] = func() (*store, api.Inode) { return newStore(t), flat(n) }
	}
	return l
}

func TestP152Load(t *testing.T) {
	for name, fresh := range trees(t) {
		s, x := fresh()
		was := s.image()
		want := sound(t, s, x)
		l, e := enode.Load(s, x)
		is(t, name, e, api.OK)
		is(t, name, extent.Same(l, want.extents) && len(l) == len(want.extents), true)
		is(t, name+": reads", s.many("Read"), len(want.nodes))
		blocks, e := enode.Blocks(s, x)
		is(t, name, e, api.OK)
		is(t, name, fmt.Sprint(blocks), fmt.Sprint(want.nodes))
		is(t, name, s.image(), was)
		is(t, name, s.many("Write")+s.many("Alloc")+s.many("Free"), 0)
	}
}

// Nodes that stand in falling blocks: Blocks are rising all the same.
func TestP152BlocksRise(t *testing.T) {
	s := newStore(t)
	x := planted(s, times(5, 20), 5)
	moved := newStore(t)
	shift := func(l []api.Extent) []api.Extent {
		l = slices.Clone(l)
		for i := range l {
			l[i].Phys = 16000 - l[i].Phys
		}
		return l
	}
	for block, b := range s.blocks {
		n, _ := unwire(b)
		if n.Depth == 1 {
			n.Entries = shift(n.Entries)
		}
		moved.lay(16000-block, wire(n))
	}
	x.Root = shift(x.Root)
	sound(t, moved, x)
	blocks, e := enode.Blocks(moved, x)
	is(t, "Blocks", e, api.OK)
	is(t, "Blocks", fmt.Sprint(blocks), fmt.Sprint(moved.used()))
}

// A Read that fails, each one in turn.
func TestP152ReadFails(t *testing.T) {
	for name, fresh := range trees(t) {
		for call, do := range calls() {
			s, x := fresh()
			if e := do(s, x).e; e != api.OK && e != api.ErrFull {
				t.Fatal(call, e)
			}
			reads := s.many("Read")
			for at := 1; at <= reads; at++ {
				s, x := fresh()
				was := s.image()
				s.fails("Read", at, broken)
				got := do(s, x)
				if got.e != broken || !got.zero {
					t.Errorf("%s of %s, read %d fails: %v, %v", call, name, at, got.e, got.zero)
				}
				is(t, "how many reads", s.many("Read") >= at, true)
				is(t, name, s.image(), was)
			}
		}
	}
}

// crook is a tree that may not be, for one reason.
type crook struct {
	name  string
	s     *store
	x     api.Inode
	onWay bool // At of block 2 meets it
}

// replaced lays a node over one.
func replaced(s *store, block int, change func(n *api.Node)) {
	n, _ := unwire(s.blocks[block])
	change(&n)
	s.lay(block, wire(n))
}

func crooks(t *testing.T) []crook {
	var l []crook
	add := func(name string, onWay bool, lengths, fans []int, bend func(s *store, x *api.Inode)) {
		s := newStore(t)
		x := planted(s, lengths, fans...)
		bend(s, &x)
		l = append(l, crook{name, s, x, onWay})
	}
	first := func(x *api.Inode) int { return x.Root[0].Phys }
	// Nodes that may not be.
	for name, b := range map[string][]byte{"nil": nil, "none": {}, "zeros": make([]byte, 256), "short": wire(api.Node{Entries: singles(20)})[:255], "long": append(wire(api.Node{Entries: singles(20)}), 0)} {
		add("a leaf of bytes: "+name, true, []int{20, 20}, nil, func(s *store, x *api.Inode) { s.lay(first(x), b) })
		add("a leaf of bytes: "+name, false, []int{20, 20}, nil, func(s *store, x *api.Inode) { s.lay(x.Root[1].Phys, b) })
		add("an index of bytes: "+name, true, times(28, 20), []int{14, 14}, func(s *store, x *api.Inode) { s.lay(first(x), b) })
		add("an index of bytes: "+name, false, times(28, 20), []int{14, 14}, func(s *store, x *api.Inode) { s.lay(x.Root[1].Phys, b) })
		add("a leaf beneath of bytes: "+name, true, times(5, 20), []int{5}, func(s *store, x *api.Inode) { s.lay(firstNode, b) })
		add("a leaf beneath of bytes: "+name, false, times(5, 20), []int{5}, func(s *store, x *api.Inode) { s.lay(firstNode+4, b) })
	}
	empty := func(depth int) []byte { return wire(api.Node{Depth: depth}) }
	full := func(depth int) []byte { return wire(api.Node{Depth: depth, Entries: singles(28)})[:256] }
	for depth := range 2 {
		add("an empty leaf", true, []int{20, 20}, nil, func(s *store, x *api.Inode) { s.lay(first(x), empty(depth)) })
		add("one of too many", true, []int{20, 20}, nil, func(s *store, x *api.Inode) { s.lay(first(x), full(depth)) })
		add("an empty index", true, times(5, 20), []int{5}, func(s *store, x *api.Inode) { s.lay(first(x), empty(depth)) })
		add("an index of too many", true, times(5, 20), []int{5}, func(s *store, x *api.Inode) { s.lay(first(x), full(depth)) })
	}
	// Children of the wrong Depth.
	add("an index for a leaf", true, times(5, 20), []int{5}, func(s *store, x *api.Inode) { x.Depth = 1 })
	add("a leaf for an index", true, []int{20, 20}, nil, func(s *store, x *api.Inode) { x.Depth = 2 })
	add("an index beneath an index", true, times(5, 20), []int{5}, func(s *store, x *api.Inode) {
		s.lay(firstNode+100, wire(api.Node{Depth: 1, Entries: x.Root}))
		x.Root = []api.Extent{{Phys: firstNode + 100}}
	})
	add("a leaf for an index, whose extents stand where leaves do", true, times(5, 20), []int{5}, func(s *store, x *api.Inode) {
		replaced(s, first(x), func(n *api.Node) {
			n.Depth = 0
			for i := range n.Entries {
				n.Entries[i].Len = 2 + i
			}
		})
	})
	// A first Logical that is not its entry's.
	add("a leaf that begins later", true, []int{20, 20}, nil, func(s *store, x *api.Inode) {
		replaced(s, first(x), func(n *api.Node) { n.Entries[0].Logical++; n.Entries[0].Phys = 5 })
	})
	add("a leaf that begins later", false, []int{20, 20}, nil, func(s *store, x *api.Inode) {
		replaced(s, x.Root[1].Phys, func(n *api.Node) { n.Entries[0].Logical++; n.Entries[0].Phys = 5 })
	})
	add("an entry that begins earlier", false, []int{20, 20}, nil, func(s *store, x *api.Inode) { x.Root[1].Logical-- })
	add("an entry that begins later", false, []int{20, 20}, nil, func(s *store, x *api.Inode) { x.Root[1].Logical++ })
	add("an index that begins later", true, times(28, 20), []int{14, 14}, func(s *store, x *api.Inode) {
		replaced(s, first(x), func(n *api.Node) { n.Entries[0].Logical++ })
	})
	add("an index that begins later", false, times(28, 20), []int{14, 14}, func(s *store, x *api.Inode) { x.Root[1].Logical-- })
	add("an entry of an index that begins later", false, times(5, 20), []int{5}, func(s *store, x *api.Inode) {
		replaced(s, first(x), func(n *api.Node) { n.Entries[3].Logical++ })
	})
	// A block that is twice a node: each leaf begins where its entry says, or the other error would be the reason.
	add("a leaf twice", false, []int{20, 20}, nil, func(s *store, x *api.Inode) { x.Root[1].Phys = x.Root[0].Phys })
	add("a leaf twice beneath", false, times(5, 20), []int{5}, func(s *store, x *api.Inode) {
		replaced(s, first(x), func(n *api.Node) { n.Entries[4].Phys = n.Entries[3].Phys })
	})
	add("an index twice", false, times(28, 20), []int{14, 14}, func(s *store, x *api.Inode) { x.Root[1].Phys = x.Root[0].Phys })
	return append(l, crookedWholes(t)...)
}

// crookedWholes are trees whose nodes may be, each by itself.
func crookedWholes(t *testing.T) []crook {
	var l []crook
	lay := func(name string, leaves [][]api.Extent, fans ...int) {
		s := newStore(t)
		l = append(l, crook{name, s, plant(s, leaves, fans...), false})
	}
	with := func(n, at int, e api.Extent, lengths ...int) [][]api.Extent {
		all := singles(n)
		all[at] = e
		return cut(all, lengths...)
	}
	// Its own block, the one ahead of it, in an extent of one leaf; the second one's in the first one's, and the other way round; the index's.
	for at := range 40 {
		lay("a node in an extent", with(40, at, api.Extent{Logical: 2 * at, Len: 1, Phys: firstNode}, 20, 20))
		lay("a node in an extent", with(40, at, api.Extent{Logical: 2 * at, Len: 1, Phys: firstNode + 1}, 20, 20))
	}
	lay("a node within an extent", with(40, 39, api.Extent{Logical: 78, Len: 9, Phys: firstNode - 5}, 20, 20))
	lay("nodes within an extent", with(40, 39, api.Extent{Logical: 78, Len: 900, Phys: firstNode - 500}, 20, 20))
	lay("a node at an extent's end", with(40, 39, api.Extent{Logical: 78, Len: 4, Phys: firstNode - 3}, 20, 20))
	lay("a node at an extent's beginning", with(40, 39, api.Extent{Logical: 78, Len: 4, Phys: firstNode + 1}, 20, 20))
	lay("an index in an extent", with(100, 9, api.Extent{Logical: 18, Len: 1, Phys: firstNode + 5}, 20, 20, 20, 20, 20), 5)
	// Extents that together extent.Check refuses.
	lay("extents that could be one", with(40, 19, api.Extent{Logical: 39, Len: 1, Phys: 49}, 20, 20))
	lay("extents that overlap", with(40, 19, api.Extent{Logical: 38, Len: 3, Phys: 5}, 20, 20))
	lay("extents over many", with(100, 19, api.Extent{Logical: 38, Len: 800, Phys: 5000}, 20, 20, 20, 20, 20), 5)
	lay("extents that overlap, over indexes", with(560, 279, api.Extent{Logical: 558, Len: 3, Phys: 5}, times(28, 20)...), 14, 14)
	lay("extents that could be one, over indexes", with(560, 279, api.Extent{Logical: 559, Len: 1, Phys: 569}, times(28, 20)...), 14, 14)
	all := singles(60)
	lay("leaves that fall beneath indexes that rise", [][]api.Extent{all[:20], all[40:], all[20:40], {{Logical: 150, Len: 1, Phys: 9}, {Logical: 152, Len: 1, Phys: 9}}, all[40:]}, 2, 2, 1)
	// Greater than need be.
	for n := 1; n <= 4; n++ {
		lay(fmt.Sprint("Depth 1, extents: ", n), cut(singles(n), n))
		lay(fmt.Sprint("Depth 2, extents: ", n), cut(singles(n), n), 1)
		lay(fmt.Sprint("Depth 2, leaves: ", n), cut(singles(20*n), times(n, 20)...), n)
		lay(fmt.Sprint("Depth 1, leaves of one: ", n), cut(singles(n), times(n, 1)...))
	}
	lay("Depth 2 in four indexes of one", cut(singles(80), times(4, 20)...), 1, 1, 1, 1)
	for _, pair := range [][]int{{1, 26}, {13, 14}, {14, 13}, {26, 1}, {5, 5}, {1, 1, 27}, {27, 1, 26}, {27, 14, 13, 27}} {
		lay(fmt.Sprint("leaves that could be one: ", pair), cut(singles(sum(pair)), pair...))
	}
	lay("leaves that could be one, beneath", cut(singles(101), 20, 20, 20, 7, 20, 14), 6)
	lay("leaves that could be one, beneath two indexes", cut(singles(27*20+7), append(times(14, 20), append([]int{7}, times(13, 20)...)...)...), 14, 14)
	for _, fans := range [][]int{{1, 26}, {13, 14}, {26, 1}, {5, 5}, {27, 1, 26}, {14, 14, 13}, {27, 20, 7, 27}} {
		lay(fmt.Sprint("indexes that could be one: ", fans), cut(singles(20*sum(fans)), times(sum(fans), 20)...), fans...)
	}
	return l
}

func TestP152TreesThatMayNotBe(t *testing.T) {
	for _, c := range crooks(t) {
		if look(c.s, c.x).wrong == "" {
			t.Fatal("the test makes what may be:", c.name)
		}
		refuse(t, c.name, c.s, c.x, api.ErrNode, c.onWay)
		if !c.onWay {
			phys, _, on, e := enode.At(c.s, c.x, 2)
			nodes := way(c.s, c.x, 2)
			leaf, _ := unwire(c.s.blocks[nodes[c.x.Depth-1]])
			wantPhys, _, wantOn := extent.At(leaf.Entries, 2)
			is(t, "At of "+c.name, fmt.Sprint(phys, on, e), fmt.Sprint(wantPhys, wantOn, api.OK))
		}
	}
}

// Extents may stand right ahead of a node, behind it, and between two; nodes in blocks 1 and MaxSectors - 1.
func TestP152NodesBesideExtents(t *testing.T) {
	for _, e := range []api.Extent{{Len: 9, Phys: firstNode - 9}, {Len: 9, Phys: firstNode + 2}, {Len: firstNode - 4000, Phys: 4000}} {
		s := newStore(t)
		all := []api.Extent{e}
		for k := range 29 {
			all = append(all, api.Extent{Logical: 5000 + 2*k, Len: 1, Phys: 10 + 2*k})
		}
		x := plant(s, cut(all, 15, 15))
		sound(t, s, x)
		l, err := enode.Load(s, x)
		is(t, "Load", err, api.OK)
		is(t, "Load", extent.Same(l, all), true)
	}
	s := newStore(t)
	for _, block := range []int{1, 8191} {
		s.lay(block, wire(api.Node{Entries: singles(5)}))
		l, err := enode.Load(s, api.Inode{Kind: api.KindFile, Depth: 1, Root: []api.Extent{{Phys: block}}})
		is(t, "Load", err, api.OK)
		is(t, "Load", extent.Same(l, singles(5)), true)
	}
}

// Read's error comes ahead of ErrNode, wherever the node stands that may not be: all that can be read is read.
func TestP152ReadAheadOfNode(t *testing.T) {
	for _, c := range crooks(t) {
		for call, do := range calls() {
			c.s.quiet()
			do(c.s, c.x)
			reads := c.s.many("Read")
			for at := 1; at <= reads; at++ {
				c.s.fails("Read", at, broken)
				if got := do(c.s, c.x); got.e != broken || !got.zero {
					t.Errorf("%s of %s, read %d fails: %v, %v", call, c.name, at, got.e, got.zero)
				}
			}
			c.s.quiet()
		}
	}
	// A node that may not be stands ahead of one that can't be read, and behind it.
	for _, fans := range [][]int{nil, {5}, {2, 27}} {
		lengths := times(max(4, sum(fans)), 20)
		s := newStore(t)
		planted(s, lengths, fans...)
		leaves := len(lengths)
		for bad := range leaves {
			for unread := range leaves {
				if bad == unread {
					continue
				}
				s := newStore(t)
				x := planted(s, lengths, fans...)
				s.lay(firstNode+bad, make([]byte, 256))
				nodes := &choosy{store: s, unread: firstNode + unread}
				for _, call := range []string{"Load", "Blocks", "Put", "Punch"} {
					is(t, call, calls()[call](nodes, x), answer{broken, true})
				}
			}
		}
	}
}

// So it does beneath an index that does not begin where its entry says.
func TestP152ReadBeneathWrongIndex(t *testing.T) {
	for unread := range 28 {
		s := newStore(t)
		x := planted(s, times(28, 20), 14, 14)
		x.Root[1].Logical--
		nodes := &choosy{store: s, unread: firstNode + unread}
		for _, call := range []string{"Load", "Blocks", "Put", "Punch"} {
			is(t, call, calls()[call](nodes, x), answer{broken, true})
		}
	}
}

// choosy are nodes of which one can't be read.
type choosy struct {
	*store
	unread int
}

func (c *choosy) Read(block int) ([]byte, api.Errno) {
	if block == c.unread {
		return c.store.blocks[block], broken
	}
	return c.store.Read(block)
}

// holed is a file whose extents are long and short, with and without holes between.
func holed(n int) []api.Extent {
	var s stream = 77
	var l []api.Extent
	from := 7
	for range n {
		e := api.Extent{Logical: from, Len: 1 + s.below(5), Phys: 10 + s.below(7000)}
		l = append(l, e)
		from = e.Logical + e.Len + s.below(3)*s.below(6)
	}
	return l
}

func TestP152At(t *testing.T) {
	for _, shape := range []struct{ lengths, fans []int }{{[]int{5}, nil}, {[]int{27, 1, 27, 20}, nil}, {times(6, 15), []int{6}}, {times(56, 14), []int{27, 1, 27, 1}}, {times(28, 27), []int{14, 14}}} {
		s := newStore(t)
		all := holed(sum(shape.lengths))
		leaves := cut(all, shape.lengths...)
		x := plant(s, leaves, shape.fans...)
		sound(t, s, x)
		atOf(t, s, x, all, leaves)
	}
	for n := range 5 {
		atOf(t, newStore(t), api.Inode{Kind: api.KindFile, Root: holed(n)}, holed(n), nil)
	}
	// A leaf that begins with the file, and one that ends with it.
	s := newStore(t)
	edges := []api.Extent{{Len: 3, Phys: 9}, {Logical: 3, Len: 3, Phys: 90}, {Logical: 8, Len: 3, Phys: 9}, {Logical: 4000, Len: 3000, Phys: 9}, {Logical: 7000, Len: 4096, Phys: 3009}, {Logical: 65535, Len: 1, Phys: 1}}
	leaves := cut(edges, 6)
	atOf(t, s, plant(s, leaves), edges, leaves)
	s = newStore(t)
	rest := append(singles(27), edges[5])
	leaves = cut(rest, 27, 1)
	atOf(t, s, plant(s, leaves), rest, leaves)
}

// atOf asks for each block that is near an end of an extent, and others.
func atOf(t *testing.T, s *store, x api.Inode, all []api.Extent, leaves [][]api.Extent) {
	t.Helper()
	asked := []int{math.MinInt, math.MinInt + 1, -65536, -2, -1, 0, 1, 30000, 65534, 65535, 65536, 65537, 1 << 32, math.MaxInt - 1, math.MaxInt}
	for _, e := range all {
		asked = append(asked, e.Logical-1, e.Logical, e.Logical+1, e.Logical+e.Len-1, e.Logical+e.Len)
	}
	// Where leaves end: how many may be fewer there.
	ends := map[int]int{}
	for _, l := range leaves {
		last := l[len(l)-1]
		ends[last.Logical+last.Len] = 1
	}
	for _, block := range asked {
		s.quiet()
		phys, n, on, e := enode.At(s, x, block)
		wantPhys, wantN, wantOn := extent.At(all, block)
		right := e == api.OK && phys == wantPhys && on == wantOn && n <= wantN && (n >= 1 || wantN == 0)
		if fewer := !wantOn || ends[block+wantN] == 1; right && !fewer {
			right = n == wantN
		}
		if !right {
			t.Fatalf("At of %d: %d, %d, %v, %v, want %d, %d, %v", block, phys, n, on, e, wantPhys, wantN, wantOn)
		}
		if want := way(s, x, block); !slices.Equal(s.calls["Read"], want) {
			t.Fatalf("At of %d reads %v, its way is %v", block, s.calls["Read"], want)
		}
	}
}

// way are the nodes on a block's way.
func way(s *store, x api.Inode, block int) []int {
	var l []int
	entries := x.Root
	for depth := x.Depth; depth > 0 && block >= 0 && block < 65536; depth-- {
		on := 0
		for _, entry := range entries {
			if entry.Logical <= block {
				on = entry.Phys
			}
		}
		if on == 0 {
			break
		}
		l = append(l, on)
		n, _ := unwire(s.blocks[on])
		entries = n.Entries
	}
	return l
}

// At minds the nodes on its way alone: those of others may be anything, or not to be read at all.
func TestP152AtMindsItsWay(t *testing.T) {
	for _, shape := range []struct{ lengths, fans []int }{{times(4, 20), nil}, {times(6, 20), []int{6}}, {times(56, 14), []int{14, 14, 14, 14}}} {
		s := newStore(t)
		x := planted(s, shape.lengths, shape.fans...)
		for k := 0; k < sum(shape.lengths); k += 7 {
			on := way(s, x, 2*k)
			is(t, "the way's length", len(on), x.Depth)
			others := s.clone()
			for _, block := range s.used() {
				if !slices.Contains(on, block) {
					others.lay(block, []byte("any"))
				}
			}
			phys, n, there, e := enode.At(others, x, 2*k)
			is(t, "At", fmt.Sprint(phys, n, there, e), fmt.Sprint(10+2*k, 1, true, api.OK))
			for _, block := range on {
				hurt := s.clone()
				hurt.lay(block, []byte("any"))
				phys, n, there, e := enode.At(hurt, x, 2*k)
				is(t, "At", fmt.Sprint(phys, n, there, e), fmt.Sprint(0, 0, false, api.ErrNode))
				// No node is on the way of a block that there is not.
				phys, n, there, e = enode.At(hurt, x, -1)
				is(t, "At", fmt.Sprint(phys, n, there, e), fmt.Sprint(0, 0, false, api.OK))
			}
		}
	}
}

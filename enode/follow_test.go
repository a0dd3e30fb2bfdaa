package enode_test

import (
	"fmt"
	"slices"
	"testing"

	"slipway/api"
	"slipway/enode"
	"slipway/extent"
)

// loaded fails if Load, Blocks or At tell anything but the list that package extent made.
func (r *rig) loaded() {
	r.t.Helper()
	l, e := enode.Load(r.s, r.x)
	blocks, f := enode.Blocks(r.s, r.x)
	if e != api.OK || f != api.OK || !slices.Equal(l, r.l) || !slices.Equal(blocks, r.s.used()) {
		r.t.Fatalf("Load: %v, %v, want %v; Blocks: %v, %v, want %v", l, e, r.l, blocks, f, r.s.used())
	}
	for block := 0; block < extent.End(r.l)+50; block += 13 {
		phys, n, on, e := enode.At(r.s, r.x, block)
		wantPhys, wantN, wantOn := extent.At(r.l, block)
		if e != api.OK || phys != wantPhys || on != wantOn || n < 1 || n > wantN {
			r.t.Fatalf("At of %d: %d, %d, %v, %v, want %d, %d, %v", block, phys, n, on, e, wantPhys, wantN, wantOn)
		}
	}
}

// orders are ways to go through n numbers.
func orders(n int) map[string][]int {
	var s stream = 9
	rising := make([]int, n)
	for k := range rising {
		rising[k] = k
	}
	falling := slices.Clone(rising)
	slices.Reverse(falling)
	l := map[string][]int{"rising": rising, "falling": falling, "mixed": s.order(n), "mixed anew": s.order(n)}
	for k := range n {
		// From both ends to the midst, from the midst to both ends, and in steps.
		near := k / 2
		if k%2 == 1 {
			near = n - 1 - k/2
		}
		l["to the midst"] = append(l["to the midst"], near)
		l["in steps"] = append(l["in steps"], k*37%n)
	}
	l["from the midst"] = slices.Clone(l["to the midst"])
	slices.Reverse(l["from the midst"])
	return l
}

// From no extent to 700 and back to none: the tree may be behind each call, and is never too great.
func TestP154To700AndBack(t *testing.T) {
	t.Parallel()
	all := orders(700)
	for there, up := range all {
		r := started(t)
		for i, k := range up {
			r.put(single(k))
			if i%70 == 69 {
				r.loaded()
			}
		}
		is(t, there+": how many", len(r.l), 700)
		is(t, there+": Depth", r.x.Depth, 2)
		for back, down := range all {
			if back != there && (back != "mixed" || there != "rising") {
				continue
			}
			r := r.twin()
			for i, k := range down {
				r.punch(2*k, 1)
				if i%90 == 89 {
					r.loaded()
				}
			}
			is(t, there+" and "+back+": Depth", r.x.Depth, 0)
			is(t, there+" and "+back+": how many", len(r.l), 0)
			is(t, there+" and "+back+": nodes", len(r.s.blocks), 0)
		}
	}
}

// What fills the holes joins all: from 700 extents to one.
func TestP154Joins(t *testing.T) {
	t.Parallel()
	for name, order := range orders(350) {
		r := started(t)
		for k := range 350 {
			r.put(single(k))
		}
		for _, k := range order {
			r.put(api.Extent{Logical: 2*k + 1, Len: 1, Phys: 11 + 2*k})
		}
		is(t, name, fmt.Sprint(r.x.Depth, r.x.Root), "0 [{0 700 10}]")
	}
}

// Any calls, whose extents are long and short, join and don't.
func TestP154AnyCalls(t *testing.T) {
	for seed := range 12 {
		s := stream(seed + 100)
		r := started(t)
		if seed%3 == 1 {
			r = rigged(t, cut(singles(56*14), times(56, 14)...), 1, 27, 13, 15)
		}
		span := []int{200, 1600, 60000}[seed%3]
		for range 350 {
			from := s.below(span)
			many := 1 + s.below([]int{1, 2, 4, 60}[s.below(4)])
			if s.below(60) == 0 {
				many = 1 + s.below(span)
			}
			if s.below(3) == 0 {
				r.punch(from, many)
				continue
			}
			e := api.Extent{Logical: from, Len: min(many, 1500), Phys: 10 + from%1600 + 2000*s.below(2)}
			if s.below(8) == 0 && len(r.l) > 0 {
				// One that stands there, or the one behind it.
				e = r.l[s.below(len(r.l))]
				e.Logical, e.Phys, e.Len = e.Logical+e.Len, (e.Phys+e.Len)%6000+1, 1
			}
			if extent.One(e) == api.OK {
				r.put(e)
			}
		}
		r.loaded()
	}
}

// Runs that are longer than MaxRun.
func TestP154LongRuns(t *testing.T) {
	var s stream = 41
	for range 6 {
		r := started(t)
		for range 120 {
			from := s.below(7000)
			many := min(1+s.below(4096), 7000-from)
			switch s.below(4) {
			case 0:
				r.punch(from, 1+s.below(3))
			case 1:
				r.put(api.Extent{Logical: from, Len: 1, Phys: 7001 + s.below(500)})
			default:
				r.put(api.Extent{Logical: from, Len: many, Phys: from + 1})
			}
		}
		r.loaded()
	}
}

// lean are shapes of trees with as few in their nodes as may be, and others; all have at most 700 extents.
func lean() []struct{ lengths, fans []int } {
	// pairs is n nodes of which each has so many.
	pairs := func(n, a, b int) []int {
		l := slices.Repeat([]int{a, b}, n/2)
		if n%2 == 1 {
			l = append(l, a)
		}
		return l
	}
	return []struct{ lengths, fans []int }{
		{[]int{5}, nil}, {[]int{27}, nil}, {[]int{1, 27}, nil}, {[]int{27, 1}, nil}, {[]int{14, 14}, nil}, {pairs(3, 1, 27), nil}, {pairs(3, 27, 1), nil}, {pairs(4, 27, 1), nil}, {pairs(4, 1, 27), nil}, {times(4, 27), nil}, {pairs(4, 5, 23), nil},
		{pairs(5, 1, 27), []int{5}}, {pairs(5, 27, 1), []int{5}}, {times(5, 14), []int{5}}, {pairs(6, 27, 1), []int{6}}, {pairs(27, 1, 27), []int{27}},
		{pairs(28, 1, 27), []int{27, 1}}, {pairs(28, 27, 1), []int{27, 1}}, {pairs(28, 1, 27), []int{1, 27}}, {pairs(28, 27, 1), []int{1, 27}}, {pairs(28, 14, 14), []int{14, 14}}, {pairs(29, 1, 27), []int{1, 27, 1}}, {pairs(29, 27, 1), []int{1, 27, 1}},
		{pairs(49, 1, 27), []int{2, 26, 21}}, {pairs(49, 1, 27), []int{27, 22}}, {pairs(50, 14, 14), []int{25, 25}}, {pairs(50, 1, 27), []int{22, 6, 22}},
	}
}

// kinds are extents that stand nowhere yet: one that joins with none, with the one ahead, with the one behind, with both.
func kinds(k int) [4]api.Extent {
	return [4]api.Extent{{Logical: 3*k + 1, Len: 1, Phys: 5}, {Logical: 3*k + 1, Len: 1, Phys: 11 + 3*k}, {Logical: 3*k + 2, Len: 1, Phys: 12 + 3*k}, {Logical: 3*k + 1, Len: 2, Phys: 11 + 3*k}}
}

// wide are n extents with two free blocks between.
func wide(n int) []api.Extent {
	var l []api.Extent
	for k := range n {
		l = append(l, api.Extent{Logical: 3 * k, Len: 1, Phys: 10 + 3*k})
	}
	return l
}

// near is whether an extent's number is at an end of a leaf, or somewhere in a great tree.
func near(lengths []int, k int) bool {
	end := 0
	for _, n := range lengths {
		end += n
		if k >= end-2 && k <= end+1 {
			return true
		}
	}
	return end < 150 || k%50 < 2
}

// A Put of blocks that stand nowhere, at each place of many trees (rig's put counts the nodes), and a Punch there.
func TestP156EachPlace(t *testing.T) {
	t.Parallel()
	for _, shape := range lean() {
		of := rigged(t, cut(wide(sum(shape.lengths)), shape.lengths...), shape.fans...)
		is(t, fmt.Sprint("the tree ", shape), look(of.s, of.x).wrong, "")
		for k := range of.l {
			if !near(shape.lengths, k) {
				continue
			}
			for _, e := range kinds(k) {
				of.twin().put(e)
			}
			of.twin().punch(3*k, 1)
		}
	}
}

// Rows of Puts that stand nowhere, about one place: all that a change leaves is changed again.
func TestP156Rows(t *testing.T) {
	t.Parallel()
	for i, shape := range lean() {
		s := stream(i)
		r := rigged(t, cut(wide(sum(shape.lengths)), shape.lengths...), shape.fans...)
		for range 3 {
			r := r.twin()
			k := s.below(len(r.l))
			for range 40 {
				k = max(0, k+s.below(9)-4)
				e := kinds(k)[s.below(4)]
				if _, gone, _ := extent.Punch(r.l, e.Logical, e.Len); len(gone) == 0 && len(r.l) < 700 {
					r.put(e)
				} else {
					r.punch(3*k, 1+s.below(8))
				}
			}
		}
	}
}

// Trees of two levels with as few in their nodes as may be, filled up to 700 extents: there is always room.
func TestP155Room(t *testing.T) {
	t.Parallel()
	for i, shape := range lean() {
		s := stream(i + 50)
		if shape.fans == nil {
			continue
		}
		r := rigged(t, cut(wide(sum(shape.lengths)), shape.lengths...), shape.fans...)
		for len(r.l) < 700 {
			// Up to here and there many are put into one leaf, which is split again and again.
			from := s.below(900)
			for k := from; k < from+40 && len(r.l) < 700; k++ {
				if e := kinds(k)[0]; !on(r.l, e.Logical) {
					r.put(e)
				}
			}
		}
		is(t, "Depth", r.x.Depth, 2)
		// One goes, another one comes.
		for range 15 {
			k := s.below(700)
			r.punch(r.l[k].Logical, 1)
			for from := s.below(2100); len(r.l) < 700; from++ {
				if !on(r.l, from) {
					r.put(api.Extent{Logical: from, Len: 1, Phys: 6 + from%2})
				}
			}
		}
	}
}

func on(l []api.Extent, block int) bool {
	_, _, is := extent.At(l, block)
	return is
}

// Beyond 700 extents there is room, too, until there would be more than MaxRoot indexes: then the tree stays as it was.
func TestP155Beyond(t *testing.T) {
	t.Parallel()
	for name, order := range orders(3000) {
		if name != "mixed" && name != "rising" {
			continue
		}
		r := started(t)
		var e api.Errno
		for _, k := range order {
			x, _, err := enode.Put(r.s, r.x, single(k))
			if err != api.OK {
				e = err
				break
			}
			r.x = x
			r.l, _, _ = extent.Put(r.l, single(k))
		}
		is(t, name, e, api.ErrFull)
		is(t, name+": more than 700", len(r.l) >= 700, true)
		sound(t, r.s, r.x)
		r.loaded()
	}
}

// anyBytes are a block's: a node whose entries name any blocks, or bytes that are none.
func (s *stream) anyBytes() []byte {
	n := api.Node{Depth: s.below(3)}
	from := 0
	for range s.below(28) {
		n.Entries = append(n.Entries, api.Extent{Logical: from, Len: min(1, n.Depth^1), Phys: 101 + s.below(12)})
		from += 1 + s.below(3)
	}
	b := wire(n)
	for range s.below(2) * s.below(3) {
		b[s.below(256)] ^= byte(1 << s.below(8))
	}
	return b
}

// Blocks of any bytes, also ones that name themselves and each other: all calls end, tell ErrNode, and read no more than all nodes of the greatest tree.
func TestP157AnyBytes(t *testing.T) {
	var s stream = 71
	ways := 0
	for range 3000 {
		nodes := newStore(t)
		for block := 101; block < 110; block++ {
			nodes.lay(block, s.anyBytes())
		}
		x := api.Inode{Kind: api.KindFile, Depth: 1 + s.below(2)}
		from := 0
		for range 1 + s.below(4) {
			x.Root = append(x.Root, api.Extent{Logical: from, Phys: 101 + s.below(9)})
			from += 1 + s.below(40)
		}
		want := api.OK
		if look(nodes, x).wrong != "" {
			want = api.ErrNode
		}
		for call, do := range calls() {
			nodes.quiet()
			got := do(nodes.clone(), x)
			if call == "At" && got.e == api.OK {
				ways++
			} else if got.e != want {
				t.Fatalf("%s: %v, want %v", call, got.e, want)
			}
			is(t, "reads", nodes.many("Read") <= 4+4*27, true)
		}
	}
	is(t, "trees in which At finds its way", ways > 20, true)
}

// A block that names itself, and two that name each other.
func TestP157Rings(t *testing.T) {
	for depth := 1; depth <= 2; depth++ {
		for _, many := range []int{1, 2, 27} {
			s := newStore(t)
			var self, other []api.Extent
			for k := range many {
				self = append(self, api.Extent{Logical: k, Phys: firstNode})
				other = append(other, api.Extent{Logical: k, Phys: firstNode + 1 - k%2})
			}
			s.lay(firstNode, wire(api.Node{Depth: 1, Entries: self}))
			refuse(t, "a node that names itself", s, api.Inode{Kind: 1, Depth: depth, Root: []api.Extent{{Phys: firstNode}}}, api.ErrNode, true)
			s.lay(firstNode, wire(api.Node{Depth: 1, Entries: other}))
			s.lay(firstNode+1, wire(api.Node{Depth: 1, Entries: self}))
			refuse(t, "nodes that name each other", s, api.Inode{Kind: 1, Depth: depth, Root: []api.Extent{{Phys: firstNode}}}, api.ErrNode, true)
			s.lay(firstNode, wire(api.Node{Depth: 0, Entries: []api.Extent{{Len: 1, Phys: firstNode}}}))
			refuse(t, "a leaf whose extent is its own block", s, api.Inode{Kind: 1, Depth: depth, Root: []api.Extent{{Phys: firstNode}}}, api.ErrNode, false)
		}
	}
}

// Trees that may be, of which a few bytes are turned, or entries of the inode: Load takes what may be, and nothing else.
func TestP157TurnedTrees(t *testing.T) {
	var s stream = 72
	taken, refused := 0, 0
	shapes := lean()
	for range 4000 {
		shape := shapes[s.below(20)]
		nodes := newStore(t)
		x := planted(nodes, shape.lengths, shape.fans...)
		block := nodes.used()[s.below(len(nodes.blocks))]
		n, _ := unwire(nodes.blocks[block])
		b := slices.Clone(nodes.blocks[block])
		switch s.below(4) {
		case 0:
			b[s.below(256)] ^= byte(1 << s.below(8))
		case 1:
			// A number of an entry.
			b[4+9*s.below(len(n.Entries))+[]int{2, 4, 8, 7}[s.below(4)]] += byte(1 + s.below(4))
		case 2:
			// Entries behind go.
			many := 1 + s.below(len(n.Entries))
			b = wire(api.Node{Depth: n.Depth, Entries: n.Entries[:many]})
		default:
			k := s.below(len(x.Root))
			x.Root[k].Logical += s.below(3) - 1
			x.Root[k].Phys += s.below(3) - 1
		}
		nodes.lay(block, b)
		if x.Root[0].Logical < 0 {
			continue
		}
		found := look(nodes, x)
		l, e := enode.Load(nodes, x)
		if found.wrong == "" {
			taken++
			is(t, "Load", e == api.OK && slices.Equal(l, found.extents), true)
		} else {
			refused++
			is(t, "Load of a tree with "+found.wrong, e, api.ErrNode)
		}
	}
	if taken < 300 || refused < 1000 {
		t.Error("too few of one sort:", taken, refused)
	}
}

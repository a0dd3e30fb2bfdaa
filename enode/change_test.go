package enode_test

import (
	"fmt"
	"maps"
	"math"
	"slices"
	"testing"

	"slipway/api"
	"slipway/enode"
	"slipway/extent"
)

// rig has a tree, and the list that package extent makes of the same calls.
type rig struct {
	t *testing.T
	s *store
	x api.Inode
	l []api.Extent
}

func rigged(t *testing.T, leaves [][]api.Extent, fans ...int) *rig {
	s := newStore(t)
	return &rig{t, s, plant(s, leaves, fans...), slices.Concat(leaves...)}
}

func started(t *testing.T) *rig {
	return &rig{t, newStore(t), api.Inode{Kind: api.KindDir, Links: 7, Size: 512, Next: 9, Gen: 11}, nil}
}

// twin is a rig like it, which goes its own way.
func (r *rig) twin() *rig { return &rig{r.t, r.s.clone(), r.x, r.l} }

func (r *rig) put(e api.Extent) {
	r.t.Helper()
	_, within, _ := extent.Punch(r.l, e.Logical, e.Len)
	l, gone, _ := extent.Put(r.l, e)
	r.did(fmt.Sprint("Put of ", e), l, gone)(enode.Put(r.s, r.x, e))
	// P15.6.
	if len(within) == 0 && (r.s.many("Write") > 8 || r.s.many("Alloc") > 4) {
		r.t.Fatalf("Put of %v writes %d nodes and allocates %d", e, r.s.many("Write"), r.s.many("Alloc"))
	}
}

func (r *rig) punch(from, n int) {
	r.t.Helper()
	l, gone, _ := extent.Punch(r.l, from, n)
	r.did(fmt.Sprint("Punch of ", from, ", ", n), l, gone)(enode.Punch(r.s, r.x, from, n))
}

// did says what is to be asked for, and takes what a call answers.
func (r *rig) did(name string, want, wantGone []api.Extent) func(api.Inode, []api.Extent, api.Errno) {
	r.t.Helper()
	was := maps.Clone(r.s.laid)
	before, list := fmt.Sprint(r.x), slices.Clone(want)
	r.s.quiet()
	return func(y api.Inode, gone []api.Extent, e api.Errno) {
		r.t.Helper()
		if e != api.OK {
			r.t.Fatalf("%s: %v", name, e)
		}
		found := sound(r.t, r.s, y)
		if !slices.Equal(found.extents, want) || !slices.Equal(gone, wantGone) {
			r.t.Fatalf("%s: %v, gone %v, want %v, gone %v", name, found.extents, gone, want, wantGone)
		}
		is(r.t, name+": what was handed in", fmt.Sprint(r.x), before)
		stays := y
		stays.Depth, stays.Root = r.x.Depth, r.x.Root
		is(r.t, name+": what stays of the inode", fmt.Sprint(stays), before)
		is(r.t, name+": what is written", fmt.Sprint(slices.Sorted(slices.Values(r.s.calls["Write"]))), fmt.Sprint(changed(was, r.s)))
		r.s.intact()
		r.x, r.l = y, list
	}
}

// changed are the blocks that have other bytes than they had, or had none.
func changed(was map[int]string, now *store) []int {
	var l []int
	for _, block := range now.used() {
		if b, ok := was[block]; !ok || b != now.laid[block] {
			l = append(l, block)
		}
	}
	return l
}

func TestP153Steps(t *testing.T) {
	r := started(t)
	depths := ""
	for r.x.Depth < 2 {
		r.put(single(len(r.l)))
		depths += fmt.Sprint(r.x.Depth)
	}
	is(t, "depths", depths[:6], "000011")
	// Five leaves are too many for the inode.
	is(t, "leaves", len(look(r.s, r.x).leaves), 5)
	is(t, "indexes", fmt.Sprint(look(r.s, r.x).fans), "[5]")
	for r.x.Depth == 2 {
		r.punch(single(len(r.l)-1).Logical, 1)
	}
	is(t, "leaves", len(look(r.s, r.x).leaves), 4)
	for len(r.l) > 5 {
		r.punch(r.l[0].Logical, 1)
		is(t, "Depth", r.x.Depth, 1)
	}
	is(t, "leaves", fmt.Sprint(look(r.s, r.x).leaves), "[5]")
	r.punch(r.l[2].Logical, 1)
	is(t, "Depth", r.x.Depth, 0)
	is(t, "nodes", len(r.s.blocks), 0)
	for len(r.l) > 0 {
		r.punch(r.l[0].Logical, 1)
	}
	is(t, "Root", len(r.x.Root), 0)
}

// The chapter's example.
func TestP153Example(t *testing.T) {
	r := started(t)
	for k := range 5 {
		r.put(single(k))
	}
	is(t, "Depth", r.x.Depth, 1)
	is(t, "leaves", fmt.Sprint(look(r.s, r.x).leaves), "[5]")
	for k := range 5 {
		r := r.twin()
		r.punch(2*k, 1)
		is(t, "Depth", r.x.Depth, 0)
		is(t, "nodes", len(r.s.blocks), 0)
	}
	// A block that joins two extents does so, too.
	for k := range 4 {
		r := r.twin()
		r.put(api.Extent{Logical: 2*k + 1, Len: 1, Phys: 11 + 2*k})
		is(t, "Depth", r.x.Depth, 0)
		is(t, "nodes", len(r.s.blocks), 0)
	}
}

// From MaxRoot leaves to one more, and back, wherever it is.
func TestP153FifthLeaf(t *testing.T) {
	for k := range 108 {
		r := rigged(t, cut(singles(108), 27, 27, 27, 27))
		r.put(api.Extent{Logical: 2*k + 1, Len: 1, Phys: 5})
		is(t, "Depth", r.x.Depth, 2)
		is(t, "leaves", len(look(r.s, r.x).leaves), 5)
		is(t, "calls", fmt.Sprint(r.s.many("Alloc"), r.s.many("Write"), r.s.many("Free")), "2 3 0")
		r.punch(r.l[0].Logical, 60)
		is(t, "Depth", r.x.Depth, 1)
	}
	// What joins two extents that stand in two leaves: one of five goes, and the index with it.
	r := rigged(t, cut(singles(83), 27, 1, 27, 1, 27), 5)
	r.put(api.Extent{Logical: 53, Len: 1, Phys: 63})
	is(t, "Depth", r.x.Depth, 1)
	is(t, "leaves", fmt.Sprint(look(r.s, r.x).leaves), "[27 27 1 27]")
	is(t, "calls", fmt.Sprint(r.s.many("Alloc"), r.s.many("Write"), r.s.many("Free")), "0 1 2")
}

func TestP153OfNothing(t *testing.T) {
	// What changes nothing writes nothing.
	for _, fans := range [][]int{nil, {6}} {
		lengths := times(max(4, sum(fans)), 20)
		r := rigged(t, cut(singles(sum(lengths)), lengths...), fans...)
		for range 3 {
			r.put(single(33))
			r.punch(67, 1)
			r.punch(5, 0)
			r.punch(65536, 0)
			r.punch(sum(lengths)*2, math.MaxInt)
			is(t, "calls", r.s.many("Write")+r.s.many("Alloc")+r.s.many("Free"), 0)
		}
	}
	r := started(t)
	r.punch(0, math.MaxInt)
	is(t, "Root", len(r.x.Root), 0)
}

// Over several leaves at once: each first and last extent.
func TestP153OverLeaves(t *testing.T) {
	of := rigged(t, cut(singles(7*14), times(7, 14)...), 7)
	for from := 0; from < 98; from += 3 {
		for to := from; to <= 98; to += 5 {
			r := of.twin()
			r.punch(2*from, 2*(to-from))
			r = of.twin()
			r.punch(2*from+1, 2*(to-from))
			if to > from {
				r = of.twin()
				r.put(api.Extent{Logical: 2 * from, Len: 2 * (to - from), Phys: 500})
				r = of.twin()
				r.put(api.Extent{Logical: 2*from + 1, Len: 2*(to-from) - 1, Phys: 500})
				r.put(api.Extent{Logical: 2*from + 2, Len: 1, Phys: 5000})
			}
		}
	}
}

// Over several indexes at once.
func TestP153OverIndexes(t *testing.T) {
	for _, fans := range [][]int{{14, 14, 14, 14}, {27, 1, 27, 1}, {1, 27, 1, 27}} {
		of := rigged(t, cut(singles(56*14), times(56, 14)...), fans...)
		for from := 0; from < 784; from += 61 {
			for to := from; to <= 784; to += 87 {
				r := of.twin()
				r.punch(2*from, 2*(to-from))
				r = of.twin()
				r.put(api.Extent{Logical: 2*from + 1, Len: 2*(to-from) + 1, Phys: 50})
				r.put(api.Extent{Logical: 2*from + 1, Len: 1, Phys: 5000})
			}
		}
		r := of.twin()
		r.punch(0, 65536)
		is(t, "nodes", len(r.s.blocks), 0)
		is(t, "frees", r.s.many("Free"), 60)
	}
}

// An extent of many blocks in a full leaf: of its midst something goes, or is put.
func TestP153Midst(t *testing.T) {
	var l []api.Extent
	for k := range 27 * 4 {
		l = append(l, api.Extent{Logical: 10 * k, Len: 8, Phys: 10 + 10*k})
	}
	for k := range 27 * 4 {
		for _, shape := range [][]int{times(4, 27), {27}} {
			if k >= sum(shape) {
				continue
			}
			for _, e := range []api.Extent{{Logical: 3, Len: 2, Phys: 3000}, {Len: 1, Phys: 3000}, {Logical: 7, Len: 1, Phys: 3000}, {Logical: 4, Len: 9, Phys: 3000}, {Logical: 8, Len: 2, Phys: 18 + 10*k}} {
				e.Logical += 10 * k
				r := rigged(t, cut(l, shape...))
				r.punch(e.Logical, e.Len)
				r.put(e)
				r = rigged(t, cut(l, shape...))
				r.put(e)
			}
		}
	}
}

func TestP153Refuses(t *testing.T) {
	for name, fresh := range trees(t) {
		s, x := fresh()
		was := s.image()
		for _, e := range []api.Extent{{}, {Logical: -1, Len: 1, Phys: 1}, {Logical: 65536, Len: 1, Phys: 1}, {Logical: 65535, Len: 2, Phys: 1}, {Len: 4097, Phys: 1}, {Len: -1, Phys: 1},
			{Len: 1}, {Len: 1, Phys: 8192}, {Len: 2, Phys: 8191}, {Logical: math.MinInt, Len: math.MaxInt, Phys: math.MinInt}, {Logical: math.MaxInt, Len: math.MaxInt, Phys: math.MaxInt}} {
			y, gone, err := enode.Put(s, x, e)
			is(t, name, err == api.ErrExtent && zeroInode(y) && gone == nil, true)
		}
		for _, p := range [][2]int{{-1, 0}, {-1, 1}, {65537, 0}, {0, -1}, {65536, -1}, {math.MinInt, 0}, {math.MaxInt, 1}, {math.MaxInt, math.MaxInt}, {0, math.MinInt}, {math.MinInt, math.MinInt}} {
			y, gone, err := enode.Punch(s, x, p[0], p[1])
			is(t, name, err == api.ErrArg && zeroInode(y) && gone == nil, true)
		}
		is(t, name, s.image(), was)
		// Where two errors apply: those of Load come first.
		_, _, err := enode.Put(nil, x, api.Extent{})
		is(t, name, err, api.ErrMade)
		_, _, err = enode.Punch(s, api.Inode{}, -1, -1)
		is(t, name, err, api.ErrArg)
		if x.Depth > 0 {
			s.fails("Read", 1, broken)
			_, _, err = enode.Put(s, x, api.Extent{})
			is(t, name, err, broken)
			s.lay(x.Root[0].Phys, nil)
			_, _, err = enode.Punch(s, x, -1, -1)
			is(t, name, err, api.ErrNode)
		}
	}
}

// deed is a call that changes a tree.
type deed struct {
	name string
	of   *rig
	do   func(s api.Nodes, x api.Inode) (api.Inode, []api.Extent, api.Errno)
}

// deeds need blocks, free some, or write many.
func deeds(t *testing.T) []deed {
	put := func(e api.Extent) func(s api.Nodes, x api.Inode) (api.Inode, []api.Extent, api.Errno) {
		return func(s api.Nodes, x api.Inode) (api.Inode, []api.Extent, api.Errno) { return enode.Put(s, x, e) }
	}
	punch := func(from, n int) func(s api.Nodes, x api.Inode) (api.Inode, []api.Extent, api.Errno) {
		return func(s api.Nodes, x api.Inode) (api.Inode, []api.Extent, api.Errno) {
			return enode.Punch(s, x, from, n)
		}
	}
	few := started(t)
	few.x.Root, few.l = singles(4), singles(4)
	four := rigged(t, cut(singles(108), 27, 27, 27, 27))
	full := rigged(t, cut(singles(27*27), times(27, 27)...), 27)
	many := rigged(t, cut(singles(56*14), times(56, 14)...), 14, 14, 14, 14)
	long := rigged(t, cut([]api.Extent{{Len: 3, Phys: 9}, {Logical: 4, Len: 3, Phys: 9}, {Logical: 8, Len: 3, Phys: 9}, {Logical: 12, Len: 3, Phys: 9}, {Logical: 16, Len: 3, Phys: 9}}, 5))
	for k := range 22 {
		long.put(api.Extent{Logical: 20 + 4*k, Len: 3, Phys: 9})
	}
	return []deed{
		{"the first leaf", few, put(single(4))},
		{"a leaf is split", rigged(t, cut(singles(27), 27)), put(single(27))},
		{"a leaf is split by Punch", long, punch(41, 1)},
		{"the first index", four, put(api.Extent{Logical: 101, Len: 1, Phys: 5})},
		{"an index is split", full, put(api.Extent{Logical: 701, Len: 1, Phys: 5})},
		{"a leaf is changed", rigged(t, cut(singles(40), 20, 20)), put(api.Extent{Logical: 41, Len: 1, Phys: 5})},
		{"leaves are joined", rigged(t, cut(singles(28), 14, 14)), punch(20, 2)},
		{"a leaf goes", rigged(t, cut(singles(29), 1, 27, 1)), punch(0, 1)},
		{"no leaf is left", rigged(t, cut(singles(5), 5)), punch(4, 1)},
		{"no index is left", rigged(t, cut(singles(27*5), 27, 27, 27, 27, 27), 5), punch(20, 54)},
		{"many go", many, punch(101, 1200)},
		{"all go", many, punch(0, 65536)},
		{"all go for one", many, put(api.Extent{Len: 2000, Phys: 5})},
	}
}

// Alloc that says ErrFull, or another error, at each of its calls.
func TestP153AllocFails(t *testing.T) {
	most := 0
	for _, d := range deeds(t) {
		trial := d.of.twin()
		d.do(trial.s, trial.x)
		for at := 1; at <= trial.s.many("Alloc"); at++ {
			most = max(most, at)
			for _, e := range []api.Errno{api.ErrFull, broken, api.ErrIo} {
				r := d.of.twin()
				was := r.s.image()
				r.s.fails("Alloc", at, e)
				y, gone, err := d.do(r.s, r.x)
				if err != e || !zeroInode(y) || gone != nil {
					t.Errorf("%s, Alloc %d says %v: %v", d.name, at, e, err)
				}
				is(t, d.name+": what stands there", r.s.image(), was)
				is(t, d.name+": writes", r.s.many("Write"), 0)
				is(t, d.name+": frees", r.s.many("Free"), at-1)
				sound(t, r.s, r.x)
				// Where there is room again it is done.
				r.s.quiet()
				y, _, err = d.do(r.s, r.x)
				is(t, d.name, err, api.OK)
				sound(t, r.s, y)
			}
		}
		// As many blocks as there are, and no more.
		for room := range trial.s.many("Alloc") {
			r := d.of.twin()
			was := r.s.image()
			r.s.most = len(r.s.blocks) + room
			_, _, err := d.do(r.s, r.x)
			is(t, d.name, err, api.ErrFull)
			is(t, d.name, r.s.image(), was)
		}
	}
	is(t, "the most blocks that were needed", most, 2)
}

// Where what was allocated can't be freed again, that is told: it is not as ErrFull says.
func TestP153FreeBehindAllocFails(t *testing.T) {
	for _, d := range deeds(t) {
		trial := d.of.twin()
		d.do(trial.s, trial.x)
		if trial.s.many("Alloc") < 2 {
			continue
		}
		r := d.of.twin()
		r.s.faults = []fault{{"Alloc", 2, api.ErrFull}, {"Free", 1, broken}}
		y, gone, err := d.do(r.s, r.x)
		is(t, d.name, err == broken && zeroInode(y) && gone == nil, true)
		is(t, d.name, r.s.many("Write"), 0)
	}
}

// Write, Free and Read that fail at each of their calls.
func TestP153OthersFail(t *testing.T) {
	many := map[string]int{}
	for _, d := range deeds(t) {
		trial := d.of.twin()
		y, _, err := d.do(trial.s, trial.x)
		is(t, d.name, err, api.OK)
		sound(t, trial.s, y)
		for _, call := range []string{"Write", "Free", "Read"} {
			for at := 1; at <= trial.s.many(call); at++ {
				many[call]++
				for _, e := range []api.Errno{broken, api.ErrArg, api.ErrPower} {
					r := d.of.twin()
					was := r.s.image()
					r.s.fails(call, at, e)
					y, gone, err := d.do(r.s, r.x)
					if err != e || !zeroInode(y) || gone != nil {
						t.Errorf("%s, %s %d says %v: %v", d.name, call, at, e, err)
					}
					if call == "Read" {
						is(t, d.name, r.s.image(), was)
					}
				}
			}
		}
	}
	for call, n := range many {
		is(t, fmt.Sprint(call, " fails ", n, " times"), n > 10, true)
	}
}

// More than MaxRoot indexes: ErrFull, and nothing is asked for.
func TestP153TooManyIndexes(t *testing.T) {
	var all []api.Extent
	for k := range 2916 {
		all = append(all, api.Extent{Logical: 5 * k, Len: 3, Phys: 10 + k%7000})
	}
	of := rigged(t, cut(all, times(108, 27)...), 27, 27, 27, 27)
	for _, k := range []int{0, 1, 26, 27, 728, 729, 1500, 2914, 2915} {
		for _, e := range []api.Extent{{Logical: 5*k + 3, Len: 1, Phys: 7500}, {Logical: 5*k + 1, Len: 1, Phys: 7500}} {
			r := of.twin()
			was := r.s.image()
			y, gone, err := enode.Put(r.s, r.x, e)
			is(t, "Put", err == api.ErrFull && zeroInode(y) && gone == nil, true)
			y, gone, err = enode.Punch(r.s, r.x, 5*k+1, 1)
			is(t, "Punch", err == api.ErrFull && zeroInode(y) && gone == nil, true)
			is(t, "what stands there", r.s.image(), was)
			is(t, "calls", r.s.many("Write")+r.s.many("Alloc")+r.s.many("Free"), 0)
			// What needs no more extents is done.
			r.put(api.Extent{Logical: 5 * k, Len: 3, Phys: 7500})
			r.put(api.Extent{Logical: 5*k + 3, Len: 1, Phys: 7503})
			r.put(api.Extent{Logical: 5*k + 4, Len: 10, Phys: 7504})
		}
	}
}

// Extents that come where a node stands, and an Alloc whose blocks may not be nodes: no tree would be there.
func TestP153BlocksThatMayNotBe(t *testing.T) {
	for _, fans := range [][]int{nil, {5}} {
		lengths := times(max(4, sum(fans)), 20)
		r := rigged(t, cut(singles(sum(lengths)), lengths...), fans...)
		was := r.s.image()
		for _, block := range r.s.used() {
			for _, e := range []api.Extent{{Logical: 33, Len: 1, Phys: block}, {Logical: 1000, Len: 9, Phys: block - 8}, {Logical: 1000, Len: 300, Phys: block - 20}} {
				y, gone, err := enode.Put(r.s, r.x, e)
				is(t, "Put onto a node", err == api.ErrNode && zeroInode(y) && gone == nil, true)
				is(t, "what stands there", r.s.image(), was)
			}
		}
		r.put(api.Extent{Logical: 1000, Len: 20, Phys: firstNode - 20})
		r.put(api.Extent{Logical: 1100, Len: 20, Phys: r.s.used()[len(r.s.blocks)-1] + 1})
	}
	// Where a node that is not needed any more stood an extent may stand.
	r := rigged(t, cut(singles(108), 27, 27, 27, 27))
	r.put(api.Extent{Len: 300, Phys: firstNode - 150})
	is(t, "Root", fmt.Sprint(r.x.Depth, r.x.Root), fmt.Sprint("0 [{0 300 ", firstNode-150, "}]"))
	for _, d := range deeds(t) {
		trial := d.of.twin()
		d.do(trial.s, trial.x)
		for at := 1; at <= trial.s.many("Alloc"); at++ {
			for _, block := range []int{math.MinInt, -1, 0, 8192, 1 << 32, math.MaxInt, d.of.l[2].Phys, firstNode} {
				r := d.of.twin()
				was := r.s.image()
				odd := &oddNodes{store: r.s, at: at, block: block}
				y, gone, err := d.do(odd, r.x)
				if block == firstNode && at == 1 && r.x.Depth == 0 {
					is(t, d.name, err, api.OK)
					continue
				}
				is(t, fmt.Sprint(d.name, ", Alloc says ", block), err == api.ErrNode && zeroInode(y) && gone == nil, true)
				is(t, d.name+": what stands there", r.s.image(), was)
				is(t, d.name+": freed", fmt.Sprint(odd.freed), fmt.Sprint(odd.gave))
			}
		}
	}
}

// oddNodes are nodes of which one Alloc says this block.
type oddNodes struct {
	*store
	at, block   int
	gave, freed []int
}

func (o *oddNodes) Alloc() (int, api.Errno) {
	block := o.block
	if len(o.gave)+1 != o.at {
		block, _ = o.store.Alloc()
	} else if o.store.blocks[block] == nil && block == firstNode {
		o.store.lay(block, []byte("fresh"))
	}
	o.gave = append(o.gave, block)
	return block, api.OK
}

func (o *oddNodes) Free(block int) api.Errno {
	o.freed = append(o.freed, block)
	if at := slices.Index(o.gave, block); at+1 == o.at {
		return api.OK
	}
	return o.store.Free(block)
}

package layout_test

import (
	"math"
	"slices"
	"strconv"
	"testing"

	"slipway/api"
	"slipway/layout"
)

func is[T comparable](t *testing.T, name string, got, want T) {
	t.Helper()
	if got != want {
		t.Errorf("%s: %v, want %v", name, got, want)
	}
}

func shape(blocks, journal int) api.Shape {
	return api.Shape{Blocks: blocks, Journal: journal}
}

func named(s api.Shape) string {
	return strconv.Itoa(s.Blocks) + " blocks, journal " + strconv.Itoa(s.Journal)
}

// plans fails if Plan does not answer this; with an error the shape is to be zero.
func plans(t *testing.T, sectors, journal, blocks int, want api.Errno) {
	t.Helper()
	s, e := layout.Plan(sectors, journal)
	right := api.Shape{}
	if want == api.OK {
		right = shape(blocks, journal)
	}
	if s != right || e != want {
		t.Errorf("Plan(%d, %d): %v, %v, want %v, %v", sectors, journal, s, e, right, want)
	}
}

// wrongShapes are those that Check refuses, each for one reason alone, but the last ones.
func wrongShapes() []api.Shape {
	l := []api.Shape{{}}
	for _, blocks := range []int{math.MinInt, math.MinInt32, -300, -128, -1, 0, 8193, 8192 + 16, 8192 + 128, math.MaxInt32, 1<<32 + 300, math.MaxInt} {
		l = append(l, shape(blocks, 16))
	}
	for _, journal := range []int{math.MinInt, math.MinInt32, -16, -1, 0, 15, 65, 1<<16 + 16, 1<<32 + 16, math.MaxInt32, math.MaxInt} {
		l = append(l, shape(300, journal), shape(128, journal), shape(8192, journal))
	}
	for last := 1; last <= 15; last++ {
		l = append(l, shape(128+last, 16), shape(256+last, 64), shape(2048+last, 16), shape(63*128+last, 32))
	}
	// Group 0 has no block that may be allocated.
	for _, journal := range []int{16, 17, 32, 64} {
		l = append(l, shape(16, journal), shape(journal+7, journal), shape(journal+8, journal))
	}
	return append(l, shape(1, 16), shape(15, 16), shape(0, 15), shape(-1, 65), shape(math.MinInt, math.MaxInt), shape(math.MaxInt, math.MinInt))
}

// rightShapes are those of many numbers of groups, with last groups and journals at their edges.
func rightShapes() []api.Shape {
	var l []api.Shape
	for _, groups := range []int{1, 2, 3, 15, 16, 17, 18, 31, 32, 33, 47, 48, 49, 63, 64} {
		for _, last := range []int{16, 17, 44, 127, 128} {
			for _, journal := range []int{16, 17, 32, 63, 64} {
				if groups > 1 || last > journal+8 {
					l = append(l, shape(128*(groups-1)+last, journal))
				}
			}
		}
	}
	return append(l, shape(25, 16), shape(26, 17), shape(41, 32), shape(73, 64))
}

func TestP111PlanOfSectors(t *testing.T) {
	for _, sectors := range []int{0, -1, -300, 8193, 8192 + 128, math.MinInt, math.MaxInt} {
		plans(t, sectors, 16, 0, api.ErrArg)
		plans(t, sectors, 64, 0, api.ErrArg)
	}
	plans(t, 1, 16, 0, api.ErrShape)
	plans(t, 8192, 16, 8192, api.OK)
	plans(t, 8192, 64, 8192, api.OK)
	plans(t, 300, 16, 300, api.OK)
	for groups := 2; groups <= 64; groups++ {
		all := 128 * groups
		plans(t, all, 32, all, api.OK)
		plans(t, all-1, 32, all-1, api.OK)
		plans(t, all-128+16, 32, all-128+16, api.OK)
		plans(t, all-128+15, 32, all-128, api.OK)
		plans(t, all-128+1, 32, all-128, api.OK)
	}
}

func TestP111PlanOfJournals(t *testing.T) {
	for _, journal := range []int{15, 65, 0, -1, -16, math.MinInt, math.MaxInt} {
		plans(t, 300, journal, 0, api.ErrArg)
		plans(t, 8192, journal, 0, api.ErrArg)
	}
	for journal := 16; journal <= 64; journal++ {
		plans(t, 300, journal, 300, api.OK)
	}
}

// One group: the superblock, one block of descriptors, two bitmaps, four blocks of inodes and the journal leave none, or just one.
func TestP111PlanOfOneGroup(t *testing.T) {
	for journal := 16; journal <= 64; journal++ {
		plans(t, journal+8, journal, 0, api.ErrShape)
		plans(t, journal+9, journal, journal+9, api.OK)
	}
	for sectors := 1; sectors <= 24; sectors++ {
		plans(t, sectors, 16, 0, api.ErrShape)
	}
	plans(t, 40, 32, 0, api.ErrShape)
	plans(t, 41, 32, 41, api.OK)
}

// Where two errors apply, ErrArg goes first.
func TestP111PlanOfTwoErrors(t *testing.T) {
	plans(t, 0, 15, 0, api.ErrArg)
	plans(t, 8193, 65, 0, api.ErrArg)
	for _, journal := range []int{15, 65, math.MinInt, math.MaxInt} {
		plans(t, 1, journal, 0, api.ErrArg)
		plans(t, 15, journal, 0, api.ErrArg)
		plans(t, 24, journal, 0, api.ErrArg)
	}
}

func TestP111Check(t *testing.T) {
	for _, s := range wrongShapes() {
		is(t, "Check of "+named(s), layout.Check(s), api.ErrShape)
	}
	for _, s := range rightShapes() {
		is(t, "Check of "+named(s), layout.Check(s), api.OK)
	}
	for _, s := range []api.Shape{shape(8192, 16), shape(8192, 64), shape(25, 16), shape(73, 64), shape(144, 64), shape(128, 16), shape(8192-112, 32)} {
		is(t, "Check of "+named(s), layout.Check(s), api.OK)
	}
}

// All shapes near what may be, held against the chapter's words.
func TestP111CheckOfAll(t *testing.T) {
	for blocks := -2; blocks <= 8194; blocks++ {
		for journal := 14; journal <= 66; journal++ {
			want := api.ErrShape
			if mayBe(blocks, journal) {
				want = api.OK
			}
			if e := layout.Check(shape(blocks, journal)); e != want {
				t.Fatalf("Check of %d, %d: %v, want %v", blocks, journal, e, want)
			}
		}
	}
}

// mayBe: P11.1's words of a shape.
func mayBe(blocks, journal int) bool {
	if blocks < 1 || blocks > 8192 || journal < 16 || journal > 64 {
		return false
	}
	if left := blocks % 128; left > 0 && left < 16 {
		return false
	}
	// With more than one group the first one has 128 blocks, and at most 1 + 4 + 2 + 4 + 64 of them are used.
	return blocks > 128 || blocks > 1+1+2+4+journal
}

// What Plan answers is the greatest shape that may be of no more blocks than that, as far as the last group alone is left out.
func TestP111PlanOfAll(t *testing.T) {
	for sectors := 1; sectors <= 8192; sectors++ {
		blocks := sectors
		if left := sectors % 128; left < 16 {
			blocks -= left
		}
		for _, journal := range []int{16, 33, 64} {
			want := api.ErrShape
			if mayBe(blocks, journal) {
				want = api.OK
			}
			plans(t, sectors, journal, blocks, want)
		}
	}
}

func refusesShape(t *testing.T, s api.Shape) {
	t.Helper()
	name := " of " + named(s)
	is(t, "Groups"+name, layout.Groups(s), 0)
	is(t, "Descs"+name, layout.Descs(s), 0)
	is(t, "Journal"+name, layout.Journal(s), 0)
	is(t, "Inodes"+name, layout.Inodes(s), 0)
	is(t, "Capacity"+name, layout.Capacity(s), 0)
	for g := range layout.All(s) {
		t.Error("All"+name, g)
	}
	for _, n := range []int{math.MinInt, -1, 0, 1, 2, 7, 16, 127, 128, 300, 8191, 8192, math.MaxInt} {
		g, e := layout.Group(s, n)
		is(t, "Group"+name, g, api.Group{})
		is(t, "Group"+name, e, api.ErrShape)
		is(t, "Kind"+name, layout.Kind(s, n), 0)
		g0, ok := layout.GroupOf(s, n)
		is(t, "GroupOf"+name, g0, 0)
		is(t, "GroupOf"+name, ok, false)
		block, at, e := layout.InodeAt(s, n)
		is(t, "InodeAt"+name, block, 0)
		is(t, "InodeAt"+name, at, 0)
		is(t, "InodeAt"+name, e, api.ErrShape)
		b, e := layout.EncodeSuper(api.Super{Shape: s, Orphan: n, Mounts: int64(n)})
		is(t, "EncodeSuper"+name, b == nil, true)
		is(t, "EncodeSuper"+name, e, api.ErrShape)
	}
}

func TestP111OtherCallsOfWrongShapes(t *testing.T) {
	for _, s := range wrongShapes() {
		refusesShape(t, s)
	}
}

// 300 sectors, journal 16: the chapter's example.
func TestP112Example(t *testing.T) {
	s, e := layout.Plan(300, 16)
	is(t, "Plan", e, api.OK)
	is(t, "Plan", s, shape(300, 16))
	is(t, "Groups", layout.Groups(s), 3)
	is(t, "Descs", layout.Descs(s), 1)
	is(t, "Journal", layout.Journal(s), 8)
	is(t, "Inodes", layout.Inodes(s), 48)
	is(t, "Capacity", layout.Capacity(s), 128-24+128-6+44-6)
	wantGroup(t, s, 0, api.Group{First: 0, Blocks: 128, Map: 2, Inodes: 3, Table: 4, Data: 24})
	wantGroup(t, s, 1, api.Group{First: 128, Blocks: 128, Map: 128, Inodes: 129, Table: 130, Data: 134})
	wantGroup(t, s, 2, api.Group{First: 256, Blocks: 44, Map: 256, Inodes: 257, Table: 258, Data: 262})
}

func wantGroup(t *testing.T, s api.Shape, g int, want api.Group) {
	t.Helper()
	got, e := layout.Group(s, g)
	name := "Group " + strconv.Itoa(g) + " of " + named(s)
	is(t, name, e, api.OK)
	is(t, name, got, want)
}

// Descriptors that fill a block, and one more.
func TestP112Descs(t *testing.T) {
	for groups := 1; groups <= 64; groups++ {
		for _, last := range []int{128, 16} {
			s := shape(128*(groups-1)+last, 64)
			if groups == 1 && last == 16 {
				s = shape(73, 64)
			}
			descs := 1
			for n := groups; n > 16; n -= 16 {
				descs++
			}
			is(t, "Groups of "+named(s), layout.Groups(s), groups)
			is(t, "Descs of "+named(s), layout.Descs(s), descs)
			is(t, "Journal of "+named(s), layout.Journal(s), 1+descs+2+4)
			is(t, "Inodes of "+named(s), layout.Inodes(s), 16*groups)
			wantGroup(t, s, 0, api.Group{First: 0, Blocks: min(128, s.Blocks), Map: 1 + descs, Inodes: 2 + descs, Table: 3 + descs, Data: 7 + descs + 64})
		}
	}
}

func TestP112Group(t *testing.T) {
	for _, s := range rightShapes() {
		groups := layout.Groups(s)
		for _, g := range []int{math.MinInt, math.MinInt32, -1, groups, groups + 1, groups + 16, math.MaxInt32, math.MaxInt} {
			got, e := layout.Group(s, g)
			is(t, "Group", got, api.Group{})
			is(t, "Group "+strconv.Itoa(g)+" of "+named(s), e, api.ErrArg)
		}
		if groups > 1 {
			first := 128 * (groups - 1)
			wantGroup(t, s, groups-1, api.Group{First: first, Blocks: s.Blocks - first, Map: first, Inodes: first + 1, Table: first + 2, Data: first + 6})
		}
	}
	wantGroup(t, shape(25, 16), 0, api.Group{First: 0, Blocks: 25, Map: 2, Inodes: 3, Table: 4, Data: 24})
	wantGroup(t, shape(8192, 64), 0, api.Group{First: 0, Blocks: 128, Map: 5, Inodes: 6, Table: 7, Data: 75})
	wantGroup(t, shape(8192, 64), 63, api.Group{First: 8064, Blocks: 128, Map: 8064, Inodes: 8065, Table: 8066, Data: 8070})
}

// told is a group with its number.
type told struct {
	g    int
	what api.Group
}

func TestP112All(t *testing.T) {
	for _, s := range rightShapes() {
		all := layout.All(s)
		for range 2 {
			var got []told
			for g, what := range all {
				got = append(got, told{g, what})
			}
			var want []told
			for g := range layout.Groups(s) {
				what, _ := layout.Group(s, g)
				want = append(want, told{g, what})
			}
			if !slices.Equal(got, want) {
				t.Fatalf("All of %s: %v, want %v", named(s), got, want)
			}
		}
	}
}

// All left behind each number of groups, ranged over again, and within itself.
func TestP112AllLeftEarly(t *testing.T) {
	s := shape(128*16+16, 16)
	all := layout.All(s)
	for stop := range 18 {
		n := 0
		for g := range all {
			is(t, "All", g, n)
			if n == stop {
				break
			}
			n++
		}
		is(t, "left behind", n, min(stop, 17))
	}
	pairs := 0
	for g := range all {
		for h := range all {
			if h > g {
				break
			}
			pairs++
		}
	}
	is(t, "pairs", pairs, 17*18/2)
}

func TestP112KindAtEdges(t *testing.T) {
	s := shape(300, 16)
	for _, c := range []struct{ block, kind, group int }{
		{0, api.BkSuper, 0}, {1, api.BkDesc, 0}, {2, api.BkBlocks, 0}, {3, api.BkInodes, 0},
		{4, api.BkTable, 0}, {7, api.BkTable, 0}, {8, api.BkLog, 0}, {23, api.BkLog, 0}, {24, api.BkData, 0}, {127, api.BkData, 0},
		{128, api.BkBlocks, 1}, {129, api.BkInodes, 1}, {130, api.BkTable, 1}, {133, api.BkTable, 1}, {134, api.BkData, 1}, {255, api.BkData, 1},
		{256, api.BkBlocks, 2}, {257, api.BkInodes, 2}, {258, api.BkTable, 2}, {261, api.BkTable, 2}, {262, api.BkData, 2}, {299, api.BkData, 2},
	} {
		is(t, "Kind of block "+strconv.Itoa(c.block), layout.Kind(s, c.block), c.kind)
		g, ok := layout.GroupOf(s, c.block)
		is(t, "GroupOf block "+strconv.Itoa(c.block), g, c.group)
		is(t, "GroupOf block "+strconv.Itoa(c.block), ok, true)
	}
	s = shape(8192, 64)
	for block, kind := range map[int]int{
		0: api.BkSuper, 1: api.BkDesc, 4: api.BkDesc, 5: api.BkBlocks, 6: api.BkInodes, 7: api.BkTable, 10: api.BkTable, 11: api.BkLog, 74: api.BkLog, 75: api.BkData, 127: api.BkData,
		8063: api.BkData, 8064: api.BkBlocks, 8065: api.BkInodes, 8066: api.BkTable, 8069: api.BkTable, 8070: api.BkData, 8191: api.BkData,
	} {
		is(t, "Kind of block "+strconv.Itoa(block), layout.Kind(s, block), kind)
	}
}

// The numbers of the kinds, as the chapter has them.
func TestP112Kinds(t *testing.T) {
	s := shape(300, 16)
	for i, block := range []int{0, 1, 2, 3, 4, 8, 24, 300} {
		is(t, "Kind of block "+strconv.Itoa(block), layout.Kind(s, block), i+1)
	}
}

func TestP112NoBlock(t *testing.T) {
	for _, s := range rightShapes() {
		for _, block := range []int{math.MinInt, math.MinInt32, -129, -128, -1, s.Blocks, s.Blocks + 1, s.Blocks + 128, 8192, 8193, math.MaxInt32, math.MaxInt} {
			if block == 8192 && s.Blocks > block {
				continue
			}
			is(t, "Kind", layout.Kind(s, block), api.BkNone)
			g, ok := layout.GroupOf(s, block)
			is(t, "GroupOf", g, 0)
			is(t, "GroupOf block "+strconv.Itoa(block)+" of "+named(s), ok, false)
		}
		is(t, "the last one's Kind", layout.Kind(s, s.Blocks-1), api.BkData)
		g, ok := layout.GroupOf(s, s.Blocks-1)
		is(t, "the last one's group", g, layout.Groups(s)-1)
		is(t, "the last one's group", ok, true)
	}
}

func inodeAt(t *testing.T, s api.Shape, ino, block, at int) {
	t.Helper()
	b, a, e := layout.InodeAt(s, ino)
	if b != block || a != at || e != api.OK {
		t.Errorf("InodeAt %d of %s: %d, %d, %v, want %d, %d", ino, named(s), b, a, e, block, at)
	}
}

func TestP112InodeAt(t *testing.T) {
	s := shape(300, 16)
	for i, want := range [][2]int{{4, 0}, {4, 64}, {4, 128}, {4, 192}, {5, 0}, {5, 64}} {
		inodeAt(t, s, i+1, want[0], want[1])
	}
	inodeAt(t, s, 16, 7, 192)
	inodeAt(t, s, 17, 130, 0)
	inodeAt(t, s, 22, 131, 64)
	inodeAt(t, s, 32, 133, 192)
	inodeAt(t, s, 33, 258, 0)
	inodeAt(t, s, 48, 261, 192)
	inodeAt(t, shape(8192, 64), 1, 7, 0)
	inodeAt(t, shape(8192, 64), 16, 10, 192)
	inodeAt(t, shape(8192, 64), 1024, 8069, 192)
	for _, s := range rightShapes() {
		most := layout.Inodes(s)
		for _, ino := range []int{math.MinInt, math.MinInt32, -1, 0, most + 1, most + 16, 1025, math.MaxInt32, math.MaxInt} {
			block, at, e := layout.InodeAt(s, ino)
			if block != 0 || at != 0 || e != api.ErrArg {
				t.Errorf("InodeAt %d of %s: %d, %d, %v", ino, named(s), block, at, e)
			}
		}
		inodeAt(t, s, 1, layout.Descs(s)+3, 0)
		last, _ := layout.Group(s, layout.Groups(s)-1)
		inodeAt(t, s, most, last.Table+3, 192)
	}
}

func TestP112Capacity(t *testing.T) {
	for _, c := range []struct{ blocks, journal, want int }{
		{25, 16, 1}, {41, 32, 1}, {42, 32, 2}, {128, 16, 104}, {144, 16, 114}, {144, 64, 66}, {400, 32, 342},
		{2048, 16, 2048 - 16*6 - 1 - 1 - 16}, {2048 + 16, 16, 2048 + 16 - 17*6 - 1 - 2 - 16}, {8192, 64, 8192 - 64*6 - 1 - 4 - 64},
	} {
		is(t, "Capacity of "+named(shape(c.blocks, c.journal)), layout.Capacity(shape(c.blocks, c.journal)), c.want)
	}
}

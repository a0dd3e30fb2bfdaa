package extent_test

import (
	"math"
	"slices"
	"testing"

	"slipway/api"
	"slipway/extent"
)

// stream gives numbers that look mixed and are the same in every run.
type stream uint64

func (s *stream) next() uint64 {
	*s = *s*6364136223846793005 + 1442695040888963407
	return uint64(*s >> 33)
}

func (s *stream) below(n int) int { return int(s.next() % uint64(n)) }

// some is how many blocks a run has: few, or many.
func (s *stream) some() int {
	return 1 + s.below([]int{1, 3, 40, 1000, 4096}[s.below(5)])
}

// one is an extent that may be.
func (s *stream) one() api.Extent {
	e := api.Extent{Len: s.some()}
	e.Logical = s.below(65537 - e.Len)
	e.Phys = 1 + s.below(8192-e.Len)
	return e
}

// extents is a list that Check takes, with extents that follow each other in the file, or on the disk, or in both.
func (s *stream) extents() []api.Extent {
	var l []api.Extent
	last := api.Extent{Phys: 1 + s.below(8000)}
	most := s.below(30)
	for len(l) < most {
		e := s.one()
		e.Logical = last.Logical + last.Len + max(0, s.below(9)-4)*s.some()
		if s.below(2) == 0 {
			e.Phys = last.Phys + last.Len
		}
		last = api.Extent{Logical: e.Logical, Len: 0, Phys: e.Phys}
		if !mayBe(e) {
			most--
			continue
		}
		if extent.Check(append(slices.Clone(l), e)) == api.OK {
			l, last = append(l, e), e
		}
	}
	return l
}

// spread is where each block of the file stands: 0 is nowhere.
func spread(l []api.Extent) []int {
	blocks := make([]int, 65536)
	for _, e := range l {
		for i := range e.Len {
			blocks[e.Logical+i] = e.Phys + i
		}
	}
	return blocks
}

// small is a file of six blocks: where each stands, 0 is nowhere.
type small [6]int

// form is the list of a small file whose blocks stand from base on, in the file and on the disk.
func form(f small, base api.Extent) []api.Extent {
	var l []api.Extent
	for i, phys := range f {
		switch {
		case phys == 0:
		case i > 0 && f[i-1] != 0 && phys == f[i-1]+1:
			l[len(l)-1].Len++
		default:
			l = append(l, api.Extent{Logical: base.Logical + i, Len: 1, Phys: base.Phys + phys})
		}
	}
	return l
}

// allSmall calls with each small file of blocks that stand at 1 to 4, or nowhere.
func allSmall(do func(small)) {
	var f small
	for n := range 15625 {
		for i := range f {
			f[i], n = n%5, n/5
		}
		do(f)
	}
}

var bases = []api.Extent{{Logical: 0, Phys: 0}, {Logical: 65530, Phys: 8187}}

// All small lists, and all of Punch and Put of them.
func TestP135AllSmall(t *testing.T) {
	for _, base := range bases {
		allSmall(func(f small) {
			l := form(f, base)
			for from := range 7 {
				for n := range 7 - from {
					smallPunch(t, f, base, l, from, n)
				}
				for many := 1; many <= min(3, 6-from); many++ {
					for phys := 1; phys+many <= 5; phys++ {
						smallPut(t, f, base, l, api.Extent{Logical: from, Len: many, Phys: phys})
					}
				}
			}
		})
	}
}

// cut are the blocks of a small file that are left without some, and those.
func cut(f small, from, n int) (small, small) {
	left, gone := f, small{}
	for i := range n {
		left[from+i], gone[from+i] = 0, f[from+i]
	}
	return left, gone
}

func smallPunch(t *testing.T, f small, base api.Extent, l []api.Extent, from, n int) {
	wantLeft, wantGone := cut(f, from, n)
	left, gone, e := extent.Punch(l, base.Logical+from, n)
	if e != api.OK || !slices.Equal(left, form(wantLeft, base)) || !slices.Equal(gone, form(wantGone, base)) {
		t.Fatalf("Punch of %s, %d, %d: %s; %s; %v", text(l), base.Logical+from, n, text(left), text(gone), e)
	}
}

func smallPut(t *testing.T, f small, base api.Extent, l []api.Extent, x api.Extent) {
	want, wantGone := cut(f, x.Logical, x.Len)
	for i := range x.Len {
		want[x.Logical+i] = x.Phys + i
	}
	x.Logical += base.Logical
	x.Phys += base.Phys
	now, gone, e := extent.Put(l, x)
	if e != api.OK || !slices.Equal(now, form(want, base)) || !slices.Equal(gone, form(wantGone, base)) {
		t.Fatalf("Put of %s, %+v: %s; %s; %v", text(l), x, text(now), text(gone), e)
	}
}

// At, Runs, Holes, Blocks and End of all small lists, block by block.
func TestP137AllSmall(t *testing.T) {
	for _, base := range bases {
		allSmall(func(f small) {
			l := form(f, base)
			blocks, end := 0, 0
			for i, phys := range f {
				if phys != 0 {
					blocks, end = blocks+1, base.Logical+i+1
				}
				if got := at(l, base.Logical+i); got != smallAt(f, base, i) {
					t.Fatalf("At of %s, %d: %v, want %v", text(l), base.Logical+i, got, smallAt(f, base, i))
				}
			}
			if extent.Blocks(l) != blocks || extent.End(l) != end {
				t.Fatalf("Blocks and End of %s: %d, %d", text(l), extent.Blocks(l), extent.End(l))
			}
			for from := range 6 {
				for to := from; to <= 6; to++ {
					_, part := cut(f, from, to-from)
					want := form(part, base)
					if got := slices.Collect(extent.Runs(l, base.Logical+from, base.Logical+to)); !slices.Equal(got, want) {
						t.Fatalf("Runs of %s, %d, %d: %s", text(l), from, to, text(got))
					}
					told(t, l, base.Logical+from, base.Logical+to, stand(f[from:to], base))
				}
			}
		})
	}
}

// stand is where blocks of a small file stand on the disk.
func stand(f []int, base api.Extent) []int {
	l := slices.Clone(f)
	for i, phys := range l {
		if phys > 0 {
			l[i] += base.Phys
		}
	}
	return l
}

// smallAt is what At is to tell, found block by block.
func smallAt(f small, base api.Extent, i int) place {
	many := 1
	if f[i] == 0 {
		for i+many < 6 && f[i+many] == 0 {
			many++
		}
		if i+many == 6 {
			many = 65536 - base.Logical - i
		}
		return place{0, many, false}
	}
	for i+many < 6 && f[i+many] == f[i]+many {
		many++
	}
	return place{base.Phys + f[i], many, true}
}

// told fails if Runs and Holes do not tell each block of the range once, and where it stands, or if two holes could be one.
func told(t *testing.T, l []api.Extent, from, to int, want []int) {
	t.Helper()
	low := max(from, 0)
	seen := make([]int, len(want))
	mark := func(block, phys int) {
		if i := block - low; i < 0 || i >= len(want) || seen[i] != 0 || want[i] != phys {
			t.Fatalf("Runs and Holes of %s, %d, %d: the block %d is at %d", text(l), from, to, block, phys)
		}
		seen[block-low] = 1
	}
	for e := range extent.Runs(l, from, to) {
		for i := range e.Len {
			mark(e.Logical+i, e.Phys+i)
		}
	}
	last := -1
	for first, many := range extent.Holes(l, from, to) {
		if many < 1 || first <= last {
			t.Fatalf("Holes of %s, %d, %d: %d, %d behind %d", text(l), from, to, first, many, last)
		}
		last = first + many
		for i := range many {
			mark(first+i, 0)
		}
	}
	if slices.Contains(seen, 0) {
		t.Fatalf("Runs and Holes of %s, %d, %d: a block is not told", text(l), from, to)
	}
}

func TestP135BlockByBlock(t *testing.T) {
	var s stream = 135
	for range 60 {
		l := s.extents()
		was := spread(l)
		for range 5 {
			from, n := s.below(65537), s.below(10000)
			if s.below(2) == 0 && len(l) > 0 {
				from = l[s.below(len(l))].Logical + s.below(3)
			}
			left, gone, e := extent.Punch(l, from, n)
			is(t, "Punch", e, api.OK)
			is(t, "Check", extent.Check(left), api.OK)
			kept, lost := slices.Clone(was), make([]int, 65536)
			for i := from; i < min(65536, from+n); i++ {
				kept[i], lost[i] = 0, was[i]
			}
			is(t, "what is left", slices.Equal(spread(left), kept), true)
			is(t, "what is gone", slices.Equal(spread(gone), lost), true)
			oneEach(t, l, gone, from, n)
		}
	}
}

// oneEach fails if there is not just one part gone for each extent that had blocks there.
func oneEach(t *testing.T, l, gone []api.Extent, from, n int) {
	t.Helper()
	var want []api.Extent
	for _, e := range l {
		var part api.Extent
		for i := range e.Len {
			if block := e.Logical + i; block >= from && block < from+n {
				if part.Len == 0 {
					part = api.Extent{Logical: block, Phys: e.Phys + i}
				}
				part.Len++
			}
		}
		if part.Len > 0 {
			want = append(want, part)
		}
	}
	is(t, "gone, extent by extent", text(gone), text(want))
}

func TestP135PutBlockByBlock(t *testing.T) {
	var s stream = 136
	for range 60 {
		l := s.extents()
		for range 8 {
			was := spread(l)
			x := s.one()
			if s.below(2) == 0 && len(l) > 0 {
				before := l[s.below(len(l))]
				x = api.Extent{Logical: before.Logical + before.Len, Len: s.some(), Phys: before.Phys + before.Len}
			}
			now, gone, e := extent.Put(l, x)
			is(t, "Put", e, right(mayBe(x)))
			if e != api.OK {
				continue
			}
			is(t, "Check", extent.Check(now), api.OK)
			want, lost := slices.Clone(was), make([]int, 65536)
			for i := range x.Len {
				want[x.Logical+i], lost[x.Logical+i] = x.Phys+i, was[x.Logical+i]
			}
			is(t, "where all stand", slices.Equal(spread(now), want), true)
			is(t, "what is gone", slices.Equal(spread(gone), lost), true)
			left, takenAway, _ := extent.Punch(l, x.Logical, x.Len)
			is(t, "what Punch takes away", text(gone), text(takenAway))
			norm, _ := extent.Norm(append(left, x)...)
			is(t, "Norm of what Punch leaves", text(now), text(norm))
			l = now
		}
	}
}

// pieces are a list's extents broken into parts, in a mixed order.
func (s *stream) pieces(l []api.Extent) []api.Extent {
	var parts []api.Extent
	for _, e := range l {
		for e.Len > 0 {
			n := min(e.Len, s.some())
			parts = append(parts, api.Extent{Logical: e.Logical, Len: n, Phys: e.Phys})
			e = api.Extent{Logical: e.Logical + n, Len: e.Len - n, Phys: e.Phys + n}
		}
	}
	for i := range parts {
		j := s.below(i + 1)
		parts[i], parts[j] = parts[j], parts[i]
	}
	return parts
}

// longRun tells whether more than MaxRun blocks stand side by side.
func longRun(l []api.Extent) bool {
	for i := 1; i < len(l); i++ {
		if l[i].Logical == l[i-1].Logical+l[i-1].Len && l[i].Phys == l[i-1].Phys+l[i-1].Len {
			return true
		}
	}
	return false
}

func TestP136OneForm(t *testing.T) {
	var s stream = 137
	long, short := 0, 0
	for range 600 {
		l := s.extents()
		again, e := extent.Norm(l...)
		is(t, "Norm", e, api.OK)
		is(t, "Norm of what is in form", extent.Same(l, again), true)
		is(t, "Norm of what is in form", text(l), text(again))
		now, e := extent.Norm(s.pieces(l)...)
		is(t, "Norm of pieces", e, api.OK)
		is(t, "Check of Norm", extent.Check(now), api.OK)
		if longRun(l) {
			long++
			is(t, "where blocks stand", slices.Equal(spread(l), spread(now)), true)
			continue
		}
		short++
		is(t, "one form", extent.Same(l, now), true)
		is(t, "one form", text(l), text(now))
	}
	if long < 20 || short < 100 {
		t.Error("too few lists of a kind:", long, short)
	}
}

// All lists of at most three small extents that Check takes, by where their blocks stand.
func TestP136OneFormOfAllSmall(t *testing.T) {
	var all []api.Extent
	for logical := range 4 {
		for many := 1; many <= 3; many++ {
			for phys := 1; phys <= 4; phys++ {
				all = append(all, api.Extent{Logical: logical, Len: many, Phys: phys})
			}
		}
	}
	seen := map[small]string{}
	check := func(l ...api.Extent) {
		now, e := extent.Norm(l...)
		if e == api.OK && extent.Check(now) != api.OK {
			t.Fatalf("Norm of %s: %s", text(l), text(now))
		}
		if extent.Check(l) != api.OK {
			return
		}
		var f small
		copy(f[:], spread(l))
		if was, ok := seen[f]; ok && was != text(l) || e != api.OK || text(now) != text(l) {
			t.Fatalf("%s and %s; Norm: %s, %v", text(l), was, text(now), e)
		}
		seen[f] = text(l)
	}
	check()
	for _, a := range all {
		check(a)
		for _, b := range all {
			check(a, b)
			for _, c := range all {
				if a.Len+b.Len+c.Len <= 5 {
					check(a, b, c)
				}
			}
		}
	}
	if len(seen) < 500 {
		t.Error("too few lists:", len(seen))
	}
}

// Runs longer than MaxRun stand in more than one form.
func TestP136LongRuns(t *testing.T) {
	a, b := list("0+4096@1 4096+1@4097"), list("0+1@1 1+4096@2")
	is(t, "Check", extent.Check(a), api.OK)
	is(t, "Check", extent.Check(b), api.OK)
	is(t, "where blocks stand", slices.Equal(spread(a), spread(b)), true)
	is(t, "Same", extent.Same(a, b), false)
}

func TestP137RunsAndHolesTogether(t *testing.T) {
	var s stream = 138
	for range 60 {
		l := s.extents()
		for _, x := range [][2]int{{0, 65536}, {math.MinInt, math.MaxInt}, {-3, 70000}, {s.below(65537), s.below(65537)}, {s.below(3000), 3000 + s.below(60000)}, {s.below(40), s.below(90)}} {
			low, high := max(x[0], 0), min(x[1], 65536)
			told(t, l, x[0], x[1], spread(l)[low:max(low, high)])
		}
		n := 0
		for e := range extent.Runs(l, 0, 65536) {
			n += e.Len
		}
		is(t, "Blocks", extent.Blocks(l), n)
	}
}

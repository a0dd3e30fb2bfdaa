package plan_test

import (
	"slices"
	"testing"

	"slipway/api"
	"slipway/plan"
)

// change does a call that s chooses, right or wrong, and answers what it made.
func change(s *stream, x api.Table) (string, api.Table, api.Errno) {
	page, block, phys := s.below(x.Logical*x.Pages), s.below(x.Logical), s.below(256)
	switch s.below(8) {
	case 0:
		y, e := plan.Open(x, step(api.StOpenSeq, block), phys)
		return "Open", y, e
	case 1:
		y, e := plan.Open(x, step(api.StOpenRand), phys)
		return "Open", y, e
	case 2:
		y, _, e := plan.Put(x, step(api.StRand), page)
		return "Put", y, e
	case 3:
		y, _, e := plan.Put(x, step(api.StSeq), x.Seq.Logical*x.Pages+x.Seq.Used)
		return "Put", y, e
	case 4:
		y, e := plan.Skip(x, step(api.StRand))
		return "Skip", y, e
	case 5:
		if s.below(2) == 0 {
			y, _, e := plan.Folded(x, block, phys)
			return "Folded", y, e
		}
		y, _, e := plan.Dropped(x)
		return "Dropped", y, e
	case 6:
		y, _, e := plan.Switched(x)
		return "Switched", y, e
	}
	return "Clone", plan.Clone(x), api.OK
}

// P5.6: what each call answers without an error Check takes.
func TestP56ItMayBe(t *testing.T) {
	var s stream = 56
	seen := map[string]int{}
	look := func(x api.Table) api.Table {
		name, y, e := change(&s, x)
		if e != api.OK {
			return x
		}
		seen[name]++
		if plan.Check(y) != api.OK || !mayBe(y) {
			t.Fatalf("%s made %v of %v", name, y, x)
		}
		if y.Pages != x.Pages || y.Logical != x.Logical || y.K != x.K {
			t.Fatalf("%s changed a size of %v: %v", name, x, y)
		}
		return y
	}
	for range 5000 {
		look(s.table())
	}
	for range 50 {
		x := of(4+s.below(3), 1+s.below(5), 1+s.below(8))
		for range 300 {
			x = look(x)
		}
	}
	for _, name := range []string{"Open", "Put", "Skip", "Folded", "Dropped", "Switched", "Clone"} {
		if seen[name] < 100 {
			t.Errorf("%s: done but %d times", name, seen[name])
		}
	}
	for name, x := range badTables() {
		is(t, "Clone of a table that may not be: "+name, plan.Check(plan.Clone(x)), api.OK)
	}
}

// places is where each page stands, and whether it does.
func places(x api.Table) []api.Place {
	l := make([]api.Place, x.Logical*x.Pages)
	for page := range l {
		at, ok := plan.Where(x, page)
		if !ok {
			at = api.Place{Phys: -1}
		}
		l[page] = at
	}
	return l
}

func TestP57TheNewestOne(t *testing.T) {
	var s stream = 57
	done := map[string]int{}
	for range 3000 {
		x := s.table()
		was := places(x)
		block, phys := s.below(x.Logical), s.below(256)
		same := func(name string, y api.Table, e api.Errno) {
			if e != api.OK {
				return
			}
			done[name]++
			if now := places(y); !slices.Equal(now, was) {
				t.Fatalf("%s of %v: %v became %v", name, x, was, now)
			}
		}
		y, e := plan.Open(x, step(api.StOpenSeq, block), phys)
		same("StOpenSeq", y, e)
		y, e = plan.Open(x, step(api.StOpenRand), phys)
		same("StOpenRand", y, e)
		y, e = plan.Skip(x, step(api.StRand))
		same("Skip", y, e)
		y, _, e = plan.Dropped(x)
		same("Dropped", y, e)
		for _, kind := range []int{api.StSeq, api.StRand} {
			page := s.below(len(was))
			if kind == api.StSeq {
				page = x.Seq.Logical*x.Pages + x.Seq.Used
			}
			y, at, e := plan.Put(x, step(kind), page)
			if e != api.OK {
				continue
			}
			done["Put"]++
			now := places(y)
			if now[page] != at {
				t.Fatalf("Put of %d: %v, but it stands at %v", page, at, now[page])
			}
			now[page] = was[page]
			if !slices.Equal(now, was) {
				t.Fatalf("Put of %d into %v: %v became %v", page, x, was, now)
			}
		}
	}
	for _, name := range []string{"StOpenSeq", "StOpenRand", "Skip", "Dropped", "Put"} {
		if done[name] < 100 {
			t.Errorf("%s: done but %d times", name, done[name])
		}
	}
}

func TestP58AMergeKeepsAll(t *testing.T) {
	var s stream = 58
	done := map[string]int{}
	for range 3000 {
		x := s.table()
		was := places(x)
		check := func(name string, y api.Table, e api.Errno, block, phys int) {
			if e != api.OK {
				return
			}
			done[name]++
			want := slices.Clone(was)
			for n := range x.Pages {
				if p := &want[block*x.Pages+n]; p.Phys != -1 {
					*p = api.Place{Phys: phys, Page: n}
				}
			}
			if now := places(y); !slices.Equal(now, want) {
				t.Fatalf("%s of %v: %v became %v, want %v", name, x, was, now, want)
			}
		}
		block, phys := s.below(x.Logical), s.below(256)
		y, _, e := plan.Folded(x, block, phys)
		check("Folded", y, e, block, phys)
		y, _, e = plan.Switched(x)
		check("Switched", y, e, x.Seq.Logical, x.Seq.Phys)
	}
	if done["Folded"] < 1000 || done["Switched"] < 500 {
		t.Error("too few", done)
	}
}

// chip is what stands on blocks: of each page a number that tells which write it is of (0: none).
type chip struct {
	pages [api.MaxBlocks][api.MaxPages]int
	free  []int
}

// fresh is a block that is not used, its pages erased; those that were not used for the longest time come first.
func (c *chip) fresh() int {
	b := c.free[0]
	c.free = c.free[1:]
	c.pages[b] = [api.MaxPages]int{}
	return b
}

func (c *chip) program(t *testing.T, at api.Place, n int) {
	t.Helper()
	if c.pages[at.Phys][at.Page] != 0 {
		t.Fatalf("%v is programmed twice", at)
	}
	c.pages[at.Phys][at.Page] = n
}

func (c *chip) copies(t *testing.T, l []api.Copy, phys int) {
	t.Helper()
	for _, x := range l {
		c.program(t, api.Place{Phys: phys, Page: x.Page}, c.pages[x.From.Phys][x.From.Page])
	}
}

// newChip has all blocks that a table does not use, and on those that it does what it says.
func newChip(x api.Table, holds func(page int) int) *chip {
	c := &chip{}
	used := usedBy(x)
	for b := range api.MaxBlocks {
		if used[b] == 0 {
			c.free = append(c.free, b)
		}
	}
	for b := range x.Seq.Used {
		c.pages[x.Seq.Phys][b] = -1 // what is not a newest copy
	}
	for _, l := range x.Logs {
		for i := range l.Pages {
			c.pages[l.Phys][i] = -1
		}
	}
	for page := range x.Logical * x.Pages {
		if at, ok := where(x, page); ok {
			c.pages[at.Phys][at.Page] = holds(page)
		}
	}
	return c
}

// write does what Want says till Put, and answers the kinds of steps that it took.
func write(t *testing.T, x api.Table, c *chip, page, n int) (api.Table, []int) {
	t.Helper()
	var kinds []int
	for len(kinds) <= x.Pages+3 {
		s, e := plan.Want(x, page)
		is(t, "Want", e, api.OK)
		kinds = append(kinds, s.Kind)
		var free []int
		switch s.Kind {
		case api.StSeq, api.StRand:
			y, at, e := plan.Put(x, s, page)
			is(t, "Put", e, api.OK)
			c.program(t, at, n)
			return y, kinds
		case api.StOpenSeq, api.StOpenRand:
			x, e = plan.Open(x, s, c.fresh())
		case api.StSwitch, api.StPartial:
			rest := slices.Collect(plan.Rest(x))
			if s.Kind == api.StSwitch && len(rest) > 0 {
				t.Fatal("a switch leaves something behind:", rest)
			}
			c.copies(t, rest, x.Seq.Phys)
			x, free, e = plan.Switched(x)
		case api.StFull, api.StVictim:
			phys := c.fresh()
			c.copies(t, slices.Collect(plan.Fold(x, s.Block)), phys)
			x, free, e = plan.Folded(x, s.Block, phys)
		case api.StDrop:
			free = []int{0}
			x, free[0], e = plan.Dropped(x)
		default:
			t.Fatal("no step:", s)
		}
		is(t, "a step", e, api.OK)
		c.free = append(c.free, free...)
		if t.Failed() {
			t.FailNow()
		}
	}
	t.Fatalf("page %d: no Put within %d steps: %v", page, x.Pages+3, kinds)
	return x, kinds
}

// P5.9, of any table; also P5.10 of the one write.
func TestP59ItGoesOn(t *testing.T) {
	var s stream = 59
	most := map[int]int{}
	for range 4000 {
		x := s.table()
		page := s.below(x.Logical * x.Pages)
		c := newChip(x, func(page int) int { return page + 1 })
		y, kinds := write(t, x, c, page, 10000)
		if len(kinds) > x.Pages+3 {
			t.Fatalf("%v: page %d: %v", x, page, kinds)
		}
		most[x.Pages] = max(most[x.Pages], len(kinds))
		for p := range x.Logical * x.Pages {
			_, stood := where(x, p)
			at, stands := plan.Where(y, p)
			want := p + 1
			if p == page {
				stood, want = true, 10000
			}
			if stood != stands || stands && c.pages[at.Phys][at.Page] != want {
				t.Fatalf("%v, behind the write of %d: page %d: %v, %v", x, page, p, at, stands)
			}
		}
	}
	if most[4] < 6 {
		t.Error("no write took many steps:", most)
	}
}

// The longest row: the oldest log has a page of as many blocks as it has pages.
func TestP59AllTheSteps(t *testing.T) {
	for _, pages := range []int{4, 5, 32} {
		for _, k := range []int{1, 2, 8} {
			x := of(pages, pages+1, k)
			for n := range k {
				l := slices.Repeat([]int{-1}, pages)
				for i := range l {
					if n == 0 {
						l[i] = i*pages + 1
					}
				}
				log(n, l...)(&x)
			}
			c := newChip(x, func(page int) int { return page + 1 })
			_, kinds := write(t, x, c, pages*pages+1, 10000)
			want := append(slices.Repeat([]int{api.StVictim}, pages), api.StDrop, api.StOpenRand, api.StRand)
			if !slices.Equal(kinds, want) {
				t.Errorf("%d pages, %d logs: %v", pages, k, kinds)
			}
		}
	}
	x := of(4, 2, 1, seq(0, 0, 2), log(1, 0))
	if _, kinds := write(t, x, newChip(x, func(page int) int { return page + 1 }), 4, 1000); !slices.Equal(kinds, []int{api.StFull, api.StOpenSeq, api.StSeq}) {
		t.Error(kinds)
	}
}

// pattern chooses which page is written next.
type pattern func(s *stream, size, n int) int

var patterns = map[string]pattern{
	"anywhere":         func(s *stream, size, n int) int { return s.below(size) },
	"in order":         func(s *stream, size, n int) int { return n % size },
	"backwards":        func(s *stream, size, n int) int { return size - 1 - n%size },
	"a few":            func(s *stream, size, n int) int { return s.below(3) * 3 % size },
	"one":              func(s *stream, size, n int) int { return 1 },
	"the first":        func(s *stream, size, n int) int { return 0 },
	"in rows":          func(s *stream, size, n int) int { return (n/7*4 + n%7) % size },
	"rows and strays":  func(s *stream, size, n int) int { return []int{n % size, n % size, s.below(size)}[s.below(3)] },
	"two rows at once": func(s *stream, size, n int) int { return (n/2 + n%2*size/2) % size },
}

// P5.10: reading where Where says tells what was written last, and P5.9 along the way.
func TestP510NothingIsLost(t *testing.T) {
	kindsSeen := map[int]int{}
	for _, size := range []struct{ pages, logical, k int }{
		{4, 1, 1}, {4, 6, 1}, {4, 6, 8}, {5, 7, 2}, {32, 3, 1}, {32, 3, 8}, {8, 20, 4},
	} {
		for name, next := range patterns {
			var s stream = 510
			x, e := plan.New(size.pages, size.logical, size.k)
			is(t, "New", e, api.OK)
			c := newChip(x, nil)
			// No more blocks than this many are there: those that are not used any more must be taken again.
			c.free = c.free[:size.logical+size.k+4]
			last := make([]int, size.logical*size.pages)
			for n := range max(600, 3*len(last)) {
				page := next(&s, len(last), n)
				var kinds []int
				x, kinds = write(t, x, c, page, n+1)
				for _, kind := range kinds {
					kindsSeen[kind]++
				}
				last[page] = n + 1
				if n%7 != 0 {
					continue
				}
				for page, want := range last {
					at, ok := plan.Where(x, page)
					if ok != (want != 0) || ok && c.pages[at.Phys][at.Page] != want {
						t.Fatalf("%v, %s, behind %d writes: page %d at %v, %v, want what was written as %d", size, name, n+1, page, at, ok, want)
					}
				}
				if in, all := len(plan.Used(x))+len(c.free), size.logical+size.k+4; in != all {
					t.Fatalf("%v, %s: %d of %d blocks are left", size, name, in, all)
				}
			}
		}
	}
	for _, kind := range allKinds {
		if kindsSeen[kind] < 20 {
			t.Errorf("a step of kind %d came but %d times", kind, kindsSeen[kind])
		}
	}
}

// Pages that are skipped are no loss either.
func TestP510WithSkips(t *testing.T) {
	for _, k := range []int{1, 8} {
		var s stream = 511
		x := of(4, 5, k)
		c := newChip(x, nil)
		last := make([]int, 20)
		for n := range 3000 {
			page := s.below(20)
			x, _ = write(t, x, c, page, n+1)
			last[page] = n + 1
			if s.below(4) == 0 {
				if y, e := plan.Skip(x, step(api.StRand)); e == api.OK {
					at := y.Logs[len(y.Logs)-1]
					c.program(t, api.Place{Phys: at.Phys, Page: len(at.Pages) - 1}, -1)
					x = y
				}
			}
			for page, want := range last {
				at, ok := plan.Where(x, page)
				if ok != (want != 0) || ok && c.pages[at.Phys][at.Page] != want {
					t.Fatalf("behind %d writes: page %d at %v, %v, want %d", n+1, page, at, ok, want)
				}
			}
		}
	}
}

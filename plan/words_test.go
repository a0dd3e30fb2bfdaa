package plan_test

import (
	"slices"
	"testing"

	"slipway/api"
	"slipway/plan"
)

// What the chapter says, word by word and in no haste; any tables are held against it.

// table is one that may be.
func (s *stream) table() api.Table {
	pages := []int{4, 4, 5, 8, 32}[s.below(5)]
	x := of(pages, 1+s.below(5), 1+s.below([]int{1, 2, 3, 8}[s.below(4)]))
	blocks := s.shuffled(256)
	take := func() int { b := blocks[0]; blocks = blocks[1:]; return b }
	for block := range x.Data {
		if s.below(3) > 0 {
			data(block, take())(&x)
			for n := range pages {
				x.Have[block*pages+n] = s.below(3) > 0
			}
		}
	}
	if s.below(4) > 0 {
		seq(take(), s.below(x.Logical), []int{0, pages, s.below(pages + 1)}[s.below(3)])(&x)
	}
	left := s.shuffled(x.Logical * pages)
	goneOf := 1 + s.below(5) // how many of so many pages are gone
	for n := s.below(x.K + 1); n > 0; n-- {
		l := make([]int, pages)
		if n == 1 {
			l = l[:[]int{pages, s.below(pages + 1)}[s.below(2)]]
		}
		for i := range l {
			l[i] = -1
			if len(left) > 0 && s.below(5) >= goneOf {
				l[i], left = left[0], left[1:]
			}
		}
		log(take(), l...)(&x)
	}
	return x
}

// spoiled is a table with some number changed, to one that it may have or not.
func (s *stream) spoiled(x api.Table) api.Table {
	x = copyOf(x)
	near := func(p *int) { *p = []int{*p - 1, *p + 1, -2, -1, 0, 255, 256, s.below(300) - 5}[s.below(8)] }
	switch s.below(9) {
	case 0:
		near(&x.Pages)
	case 1:
		near(&x.Logical)
	case 2:
		near(&x.K)
	case 3:
		near(&x.Data[s.below(len(x.Data))])
	case 4:
		i := s.below(len(x.Have))
		x.Have[i] = !x.Have[i]
	case 5:
		near([]*int{&x.Seq.Phys, &x.Seq.Logical, &x.Seq.Used}[s.below(3)])
	case 6:
		log(s.below(256), s.below(20)-1)(&x)
	default:
		if len(x.Logs) > 0 {
			l := &x.Logs[s.below(len(x.Logs))]
			switch {
			case s.below(3) == 0:
				near(&l.Phys)
			case s.below(3) == 0:
				l.Pages = append(l.Pages, s.below(20)-2)
			case len(l.Pages) > 0 && s.below(3) == 0:
				l.Pages = l.Pages[1:]
			case len(l.Pages) > 0:
				near(&l.Pages[s.below(len(l.Pages))])
			}
		}
	}
	return x
}

func usedBy(x api.Table) map[int]int {
	used := map[int]int{}
	for _, b := range x.Data {
		if b != -1 {
			used[b]++
		}
	}
	if x.Seq.Phys != -1 {
		used[x.Seq.Phys]++
	}
	for _, l := range x.Logs {
		used[l.Phys]++
	}
	return used
}

// mayBe is P5.1's list, turned round.
func mayBe(x api.Table) bool {
	if x.Pages < 4 || x.Pages > 32 || x.Logical < 1 || x.Logical > 256 || x.K < 1 || x.K > 8 {
		return false
	}
	ok := len(x.Data) == x.Logical && len(x.Have) == x.Logical*x.Pages && len(x.Logs) <= x.K
	if !ok {
		return false
	}
	for b, n := range usedBy(x) {
		ok = ok && b >= 0 && b <= 255 && n == 1
	}
	for p, have := range x.Have {
		ok = ok && (!have || x.Data[p/x.Pages] != -1)
	}
	if x.Seq.Phys == -1 {
		ok = ok && x.Seq.Logical == 0 && x.Seq.Used == 0
	} else {
		ok = ok && x.Seq.Logical >= 0 && x.Seq.Logical < x.Logical && x.Seq.Used >= 0 && x.Seq.Used <= x.Pages
	}
	times := map[int]int{}
	for i, l := range x.Logs {
		ok = ok && l.Phys >= 0 && len(l.Pages) <= x.Pages && (i == len(x.Logs)-1 || len(l.Pages) == x.Pages)
		for _, p := range l.Pages {
			times[p]++
			ok = ok && p >= -1 && p < x.Logical*x.Pages && (p == -1 || times[p] == 1)
		}
	}
	return ok
}

func inLog(x api.Table, page int) (api.Place, bool) {
	for _, l := range x.Logs {
		if i := slices.Index(l.Pages, page); i >= 0 {
			return api.Place{Phys: l.Phys, Page: i}, true
		}
	}
	return api.Place{}, false
}

func where(x api.Table, page int) (api.Place, bool) {
	if page < 0 || page >= x.Logical*x.Pages {
		return api.Place{}, false
	}
	if at, ok := inLog(x, page); ok {
		return at, true
	}
	b, o := page/x.Pages, page%x.Pages
	if x.Seq.Phys != -1 && x.Seq.Logical == b && x.Seq.Used > o {
		return api.Place{Phys: x.Seq.Phys, Page: o}, true
	}
	if x.Have[page] {
		return api.Place{Phys: x.Data[b], Page: o}, true
	}
	return api.Place{}, false
}

// overtaken: a log has a page that Seq has.
func overtaken(x api.Table) bool {
	for o := range x.Seq.Used {
		if _, ok := inLog(x, x.Seq.Logical*x.Pages+o); ok {
			return true
		}
	}
	return false
}

func roomy(x api.Table) bool {
	return len(x.Logs) > 0 && len(x.Logs[len(x.Logs)-1].Pages) < x.Pages
}

func want(x api.Table, page int) api.Step {
	b, o := page/x.Pages, page%x.Pages
	mine := x.Seq.Phys != -1 && x.Seq.Logical == b && x.Seq.Used == o
	if o == 0 {
		switch {
		case x.Seq.Phys == -1:
			return step(api.StOpenSeq, b)
		case mine:
			return step(api.StSeq, b)
		case overtaken(x):
			return step(api.StFull, x.Seq.Logical)
		case x.Seq.Used == x.Pages:
			return step(api.StSwitch, x.Seq.Logical)
		}
		return step(api.StPartial, x.Seq.Logical)
	}
	switch {
	case mine:
		return step(api.StSeq, b)
	case roomy(x):
		return step(api.StRand)
	case len(x.Logs) < x.K:
		return step(api.StOpenRand)
	}
	for _, p := range x.Logs[0].Pages {
		if p != -1 {
			return step(api.StVictim, p/x.Pages)
		}
	}
	return step(api.StDrop)
}

// mergedTo is what Folded and Switched make.
func mergedTo(x api.Table, block, phys int) (api.Table, []int) {
	y := copyOf(x)
	y.Data[block] = phys
	for p := block * x.Pages; p < (block+1)*x.Pages; p++ {
		_, y.Have[p] = where(x, p)
		for _, l := range y.Logs {
			if i := slices.Index(l.Pages, p); i >= 0 {
				l.Pages[i] = -1
			}
		}
	}
	if x.Seq.Phys != -1 && x.Seq.Logical == block {
		y.Seq = api.SeqLog{Phys: -1}
	}
	var free []int
	for b := range 256 {
		if usedBy(x)[b] == 1 && usedBy(y)[b] == 0 {
			free = append(free, b)
		}
	}
	return y, free
}

func copiesOf(x api.Table, block, from int) []api.Copy {
	var l []api.Copy
	for o := from; o < x.Pages; o++ {
		if at, ok := where(x, block*x.Pages+o); ok {
			l = append(l, api.Copy{From: at, Page: o})
		}
	}
	return l
}

func TestP51CheckByTheWords(t *testing.T) {
	var s stream = 51
	seen := map[bool]int{}
	for range 20000 {
		x := s.table()
		for range s.below(4) {
			x = s.spoiled(x)
		}
		ok := mayBe(x)
		seen[ok]++
		if (plan.Check(x) == api.OK) != ok || !ok && plan.Check(x) != api.ErrTable {
			t.Fatalf("%v: %v, want %v", x, plan.Check(x), ok)
		}
	}
	if seen[true] < 2000 || seen[false] < 2000 {
		t.Error("too few of a kind", seen)
	}
}

func TestP52ByTheWords(t *testing.T) {
	var s stream = 52
	for range 1000 {
		x := s.table()
		for page := -2; page < x.Logical*x.Pages+2; page++ {
			at, ok := where(x, page)
			if got, is := plan.Where(x, page); got != at || is != ok {
				t.Fatalf("%v: page %d: %v, %v, want %v, %v", x, page, got, is, at, ok)
			}
		}
		var used []int
		for b := range 256 {
			if usedBy(x)[b] > 0 {
				used = append(used, b)
			}
		}
		if l := plan.Used(x); !slices.Equal(l, used) {
			t.Fatalf("%v: %v, want %v", x, l, used)
		}
		y := s.spoiled(x)
		if mayBe(y) && plan.Same(x, y) != equal(x, y) || !plan.Same(x, x) {
			t.Fatal("Same", x, y)
		}
	}
}

func TestP53ByTheWords(t *testing.T) {
	var s stream = 53
	seen := map[int]int{}
	for range 3000 {
		x := s.table()
		for page := range x.Logical * x.Pages {
			w := want(x, page)
			seen[w.Kind]++
			if got, e := plan.Want(x, page); got != w || e != api.OK {
				t.Fatalf("%v: page %d: %v, %v, want %v", x, page, got, e, w)
			}
		}
	}
	for _, kind := range allKinds {
		if seen[kind] < 50 {
			t.Errorf("a step of kind %d came but %d times", kind, seen[kind])
		}
	}
}

func TestP54ByTheWords(t *testing.T) {
	var s stream = 54
	done := map[string]int{}
	for range 20000 {
		x := s.table()
		st := step(1+s.below(4), s.below(x.Logical+2)-1)
		phys, page := s.below(260)-2, s.below(x.Logical*x.Pages+4)-2
		opened, e := plan.Open(x, st, phys)
		switch {
		case phys < 0 || phys > 255 || usedBy(x)[phys] > 0:
			refused(t, "Open", opened, e, api.ErrArg)
		case st.Kind == api.StOpenSeq && st.Block >= 0 && st.Block < x.Logical && x.Seq.Phys == -1:
			done["StOpenSeq"]++
			made(t, "Open", opened, e, with(x, seq(phys, st.Block, 0)))
		case st.Kind == api.StOpenRand && len(x.Logs) < x.K && !roomy(x):
			done["StOpenRand"]++
			made(t, "Open", opened, e, with(x, log(phys)))
		default:
			refused(t, "Open", opened, e, api.ErrStep)
		}
		forgotten := func(x *api.Table) {
			for _, l := range x.Logs {
				if i := slices.Index(l.Pages, page); i >= 0 {
					l.Pages[i] = -1
				}
			}
		}
		more := func(page int) part {
			return func(x *api.Table) {
				l := &x.Logs[len(x.Logs)-1]
				l.Pages = append(l.Pages, page)
			}
		}
		got, at, e := plan.Put(x, st, page)
		switch {
		case page < 0 || page >= x.Logical*x.Pages:
			refused(t, "Put", got, e, api.ErrArg)
		case st.Kind == api.StSeq && x.Seq.Phys != -1 && x.Seq.Logical == page/x.Pages && x.Seq.Used == page%x.Pages:
			done["StSeq"]++
			made(t, "Put", got, e, with(x, forgotten, func(x *api.Table) { x.Seq.Used++ }))
			if at != (api.Place{Phys: x.Seq.Phys, Page: x.Seq.Used}) {
				t.Fatal("Put", x, at)
			}
		case st.Kind == api.StRand && roomy(x):
			done["StRand"]++
			made(t, "Put", got, e, with(x, forgotten, more(page)))
			if l := x.Logs[len(x.Logs)-1]; at != (api.Place{Phys: l.Phys, Page: len(l.Pages)}) {
				t.Fatal("Put", x, at)
			}
		default:
			refused(t, "Put", got, e, api.ErrStep)
		}
		got, e = plan.Skip(x, st)
		if st.Kind == api.StRand && roomy(x) {
			made(t, "Skip", got, e, with(x, more(-1)))
		} else {
			refused(t, "Skip", got, e, api.ErrStep)
		}
		if t.Failed() {
			t.Fatal(x, st, phys, page)
		}
	}
	for _, name := range []string{"StOpenSeq", "StOpenRand", "StSeq", "StRand"} {
		if done[name] < 100 {
			t.Errorf("%s: done but %d times", name, done[name])
		}
	}
}

func TestP55ByTheWords(t *testing.T) {
	var s stream = 55
	done := map[string]int{}
	for range 5000 {
		x := s.table()
		for block := range x.Logical {
			tells(t, "Fold", plan.Fold(x, block), copiesOf(x, block, 0)...)
		}
		if x.Seq.Phys == -1 {
			tells(t, "Rest", plan.Rest(x))
		} else {
			tells(t, "Rest", plan.Rest(x), copiesOf(x, x.Seq.Logical, x.Seq.Used)...)
		}
		block, phys := s.below(x.Logical+2)-1, s.below(260)-2
		got, free, e := plan.Folded(x, block, phys)
		if block < 0 || block >= x.Logical || phys < 0 || phys > 255 || usedBy(x)[phys] > 0 {
			refused(t, "Folded", got, e, api.ErrArg)
		} else {
			done["Folded"]++
			y, l := mergedTo(x, block, phys)
			merges(t, "Folded", got, free, e, y, l...)
		}
		got, free, e = plan.Switched(x)
		if x.Seq.Phys == -1 || overtaken(x) {
			refused(t, "Switched", got, e, api.ErrStep)
		} else {
			done["Switched"]++
			y, l := mergedTo(x, x.Seq.Logical, x.Seq.Phys)
			merges(t, "Switched", got, free, e, y, l...)
		}
		got, gone, e := plan.Dropped(x)
		if len(x.Logs) == 0 || len(x.Logs[0].Pages) > 0 && slices.Max(x.Logs[0].Pages) >= 0 {
			refused(t, "Dropped", got, e, api.ErrStep)
		} else {
			done["Dropped"]++
			y := copyOf(x)
			y.Logs = y.Logs[1:]
			made(t, "Dropped", got, e, y)
			if gone != x.Logs[0].Phys {
				t.Error("Dropped tells", gone)
			}
		}
		if t.Failed() {
			t.Fatal(x, block, phys)
		}
	}
	for _, name := range []string{"Folded", "Switched", "Dropped"} {
		if done[name] < 100 {
			t.Errorf("%s: done but %d times", name, done[name])
		}
	}
}

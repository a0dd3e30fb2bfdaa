package scan_test

import (
	"math"
	"slices"
	"testing"

	"slipway/api"
	"slipway/page"
	"slipway/scan"
)

// roomy is a list with something behind its end, so that an append to what was handed in is seen, too.
func roomy[T any](l []T, behind T) []T {
	return append(append(make([]T, 0, len(l)+2), l...), behind, behind)[:len(l)]
}

// untouched tells whether nothing was written to a roomy list, nor behind it.
func untouched[T comparable](l, was []T, behind T) bool {
	return slices.Equal(l, was) && l[:len(l)+1][len(l)] == behind && l[:len(l)+2][len(l)+1] == behind
}

var (
	behindFound  = found(77, 7, 7, 77)
	behindPlaces = at(77, 7)
)

// given are arguments of all kinds, with room behind each list.
type given struct {
	found  []api.Found
	newest []api.Place
	pages  []api.Page
}

// give has copies of which Best moves some, and of which not all are in order.
func give(t *testing.T) given {
	t.Helper()
	in, l := spread()
	in[0], in[8] = at(30, 0), at(31, 2)
	l = slices.Concat(whole(10), l, whole(9), []api.Found{found(30, 0, 0, 9), found(31, 2, 8, 4), found(31, 1, 8, 3)})
	pages := []api.Page{page.Erased(), encode(t, log(4, 5)), encode(t, data(5, 6, 7)), page.Erased(), encode(t, anchor(0, 8))}
	return given{found: roomy(l, behindFound), newest: roomy(in, behindPlaces), pages: roomy(pages, api.Page{})}
}

// intact fails if something was written to what was handed in.
func (g given) intact(t *testing.T, name string) {
	t.Helper()
	was := give(t)
	if !untouched(g.found, was.found, behindFound) || !untouched(g.newest, was.newest, behindPlaces) || !untouched(g.pages, was.pages, api.Page{}) {
		t.Errorf("%s wrote to what was handed in", name)
	}
}

// scribble writes over all that was handed in.
func (g given) scribble() {
	answer{found: g.found, places: g.newest}.scribble()
	for i := range g.pages {
		g.pages[i], _ = page.Encode(log(99, 99), nil)
	}
}

// answer is all that a call may answer.
type answer struct {
	places  []api.Place
	x       api.Table
	blocks  []int
	found   []api.Found
	numbers []int64
	e       api.Errno
}

func (a answer) copy() answer {
	a.places, a.blocks, a.found, a.numbers = slices.Clone(a.places), slices.Clone(a.blocks), slices.Clone(a.found), slices.Clone(a.numbers)
	a.x.Data, a.x.Have = slices.Clone(a.x.Data), slices.Clone(a.x.Have)
	return a
}

func (a answer) equal(b answer) bool {
	return slices.Equal(a.places, b.places) && equal(a.x, b.x) && slices.Equal(a.blocks, b.blocks) &&
		slices.Equal(a.found, b.found) && slices.Equal(a.numbers, b.numbers) && a.e == b.e
}

// scribble writes over all that an answer reaches, also behind its ends.
func (a answer) scribble() {
	for i := range a.places {
		a.places[i] = at(99, 9)
	}
	for i := range a.blocks {
		a.blocks[i] = 99
	}
	for i := range a.x.Data {
		a.x.Data[i] = 99
	}
	for i := range a.x.Have {
		a.x.Have[i] = !a.x.Have[i]
	}
	for i := range a.found {
		a.found[i] = found(99, 9, 99, 99)
	}
}

func calls() map[string]func(g given) answer {
	return map[string]func(g given) answer{
		"Newest":           func(g given) answer { return answer{places: scan.Newest(4, 3, g.found...)} },
		"Newest, in vain":  func(g given) answer { return answer{places: scan.Newest(3, 3, g.found...)} },
		"Best":             func(g given) answer { return answer{places: scan.Best(4, g.newest, g.found...)} },
		"Best, in vain":    func(g given) answer { return answer{places: scan.Best(3, g.newest, g.found...)} },
		"Best of nothing":  func(g given) answer { return answer{places: scan.Best(4, g.newest)} },
		"Best of few":      func(g given) answer { return answer{places: scan.Best(4, g.newest[:3], g.found...)} },
		"Needed":           func(g given) answer { return answer{blocks: slices.Collect(scan.Needed(g.newest))} },
		"Pages":            func(g given) answer { return answer{found: slices.Collect(scan.Pages(3, g.pages))} },
		"Settled":          func(g given) answer { phys, _ := scan.Settled(4, g.newest, 0); return answer{blocks: []int{phys}} },
		"Settled, in vain": func(g given) answer { phys, _ := scan.Settled(4, g.newest, 1); return answer{blocks: []int{phys}} },
		"Greatest":         func(g given) answer { return answer{numbers: []int64{scan.Greatest(g.found...)}} },
		"Table": func(g given) answer {
			x, loose, e := scan.Table(4, 3, 2, g.newest)
			return answer{x: x, blocks: loose, e: e}
		},
		"Table, in vain": func(g given) answer {
			x, loose, e := scan.Table(4, 2, 2, g.newest)
			return answer{x: x, blocks: loose, e: e}
		},
	}
}

var oddNumbers = []int{math.MinInt, -257, -1, 0, 1, 3, 4, 5, 31, 32, 33, 255, 256, 257, math.MaxInt}

// No call panics, whatever it is given.
func TestR1NoPanic(t *testing.T) {
	var l []api.Found
	var in []api.Place
	for _, a := range oddNumbers {
		for _, b := range oddNumbers {
			in = append(in, at(a, b))
			for _, h := range badHeaders(a) {
				l = append(l, api.Found{At: at(a, b), H: h.h})
			}
			for _, seq := range []int64{math.MinInt64, 0, 1, api.MaxSeq, math.MaxInt64} {
				l = append(l, found(b, a, a, seq), api.Found{At: at(a, b), H: data(b, seq, api.MaxSeq)})
			}
		}
	}
	for len(in)%32 != 0 {
		in = append(in, nowhere)
	}
	for _, a := range oddNumbers {
		scan.Best(a, in, l...)
		scan.Best(a, nil, l...)
		scan.Best(a, in)
		for _, b := range oddNumbers {
			if got := scan.Newest(a, b, l...); len(got) > 0 && len(got) != a*b {
				t.Error("Newest", a, b, len(got))
			}
			scan.Settled(a, in, b)
			scan.Settled(a, nil, b)
			for _, c := range oddNumbers {
				scan.Table(a, b, c, in)
				scan.Table(a, b, c, nil)
			}
		}
	}
	scan.Greatest(l...)
	for range scan.Needed(in) {
	}
}

// With an error, and where there is nothing, every other result is the zero value.
func TestR2(t *testing.T) {
	for _, in := range [][]api.Place{nil, home(), home()[:8], append(home(), nowhere)} {
		for _, pages := range oddNumbers {
			for _, n := range oddNumbers {
				x, loose, e := scan.Table(pages, n, n, in)
				if e != api.OK && (e != api.ErrArg || !isZero(x) || loose != nil) {
					t.Error("Table", pages, n, x, loose, e)
				}
				if phys, is := scan.Settled(pages, in, n); !is && phys != 0 {
					t.Error("Settled", pages, n, phys)
				}
			}
		}
	}
	if got := scan.Newest(4, 0, found(1, 1, 1, 1)); got != nil {
		t.Error("Newest", got)
	}
}

func TestR3HandedIn(t *testing.T) {
	for name, call := range calls() {
		g := give(t)
		got := call(g)
		g.intact(t, name)
		was := got.copy()
		g.scribble()
		if !got.equal(was) {
			t.Errorf("%s: the answer hangs on what was handed in", name)
		}
	}
}

// What is answered is nobody's else: neither the argument's, nor another answer's, nor do two lists of one share any.
func TestR3Answers(t *testing.T) {
	for name, call := range calls() {
		g := give(t)
		first, second := call(g), call(g)
		was := second.copy()
		first.scribble()
		g.intact(t, name+"'s owner")
		if !second.equal(was) {
			t.Errorf("%s: two answers share memory", name)
		}
		if third := call(g); !third.equal(was) {
			t.Errorf("%s: an answer was kept", name)
		}
		_, _ = append(second.x.Data, 99, 99, 99), append(second.blocks, 99, 99, 99)
		_, _ = append(second.x.Have, true, true, true), append(second.places, at(99, 9))
		g.intact(t, name+"'s owner, behind the end")
		if !second.equal(was) {
			t.Errorf("%s: two lists of the answer share memory", name)
		}
	}
}

// An iterator tells what was there when it was asked for.
func TestR3Iterators(t *testing.T) {
	g := give(t)
	blocks, pages := scan.Needed(g.newest), scan.Pages(3, g.pages)
	want := []api.Found{{At: at(3, 1), H: log(4, 5)}, {At: at(3, 2), H: data(5, 6, 7)}, {At: at(3, 4), H: anchor(0, 8)}}
	g.scribble()
	tells(t, "Needed, behind a change", blocks, 20, 21, 30, 31)
	tells(t, "Pages, behind a change", pages, want...)
	tells(t, "Needed, asked for anew", scan.Needed(g.newest), 99)
	// Nor is a change told that comes in the midst, or that another range makes.
	g = give(t)
	blocks, pages = scan.Needed(g.newest), scan.Pages(3, g.pages)
	var got []int
	for phys := range blocks {
		g.scribble()
		got = append(got, phys)
		tells(t, "Needed, within another range", blocks, 20, 21, 30, 31)
	}
	if !slices.Equal(got, []int{20, 21, 30, 31}) {
		t.Error("Needed, in the midst of a change", got)
	}
	for range pages {
		tells(t, "Pages, within another range", pages, want...)
	}
}

func TestR4EmptyIsNil(t *testing.T) {
	in, _ := spread()
	if !slices.Equal(scan.Newest(4, 3, []api.Found{}...), scan.Newest(4, 3)) || !slices.Equal(scan.Best(4, in, []api.Found{}...), in) {
		t.Error("nothing that was found")
	}
	if len(scan.Best(4, nil, whole(9)...)) != 0 || len(scan.Best(4, []api.Place{}, whole(9)...)) != 0 {
		t.Error("no places")
	}
	if scan.Greatest([]api.Found{}...) != 0 {
		t.Error("Greatest")
	}
	tells(t, "Needed", scan.Needed([]api.Place{}))
	tells(t, "Pages", scan.Pages(0, []api.Page{}))
	settled(t, "Settled", 4, []api.Place{}, 0, -1)
}

func TestR6(t *testing.T) {
	run := func() answer {
		var s stream = 6
		var said answer
		for range 200 {
			pages, logical := s.sized()
			l := s.row(pages, logical)
			newest := scan.Newest(pages, logical, l...)
			best := scan.Best(pages, newest, l...)
			x, loose, _ := scan.Table(pages, logical, 1, best)
			said.places = slices.Concat(said.places, newest, best)
			said.blocks = slices.Concat(said.blocks, x.Data, loose, slices.Collect(scan.Needed(best)))
			said.numbers = append(said.numbers, scan.Greatest(l...))
		}
		return said
	}
	if !run().equal(run()) {
		t.Error("the same calls did not answer the same")
	}
}

// So much that each call has to be near-linear to end in time.
func TestTheBound(t *testing.T) {
	const n = 1 << 18
	rows := map[string]func(i int) api.Found{
		"one page, ever newer, at one place":       func(i int) api.Found { return found(3, 1, 1, int64(i+1)) },
		"one page, ever older, at one place":       func(i int) api.Found { return found(3, 1, 1, int64(n-i)) },
		"one page, the same, everywhere":           func(i int) api.Found { return found(i%256, i/256%4, 1, 5) },
		"all pages of a block, all at their own":   func(i int) api.Found { return found(i/4%256, i%4, i%4, 5) },
		"all pages of a chip, each once":           func(i int) api.Found { return found(i/4%256, i%4, i%1024, 5) },
		"so many pages that most are not a chip's": func(i int) api.Found { return found(i/4%256, i%4, i, 5) },
	}
	for name, of := range rows {
		var l []api.Found
		in := slices.Repeat([]api.Place{at(3, 1)}, n)
		for i := range n {
			l = append(l, of(i))
			in[i] = l[i].At
		}
		newest := scan.Newest(4, 256, l...)
		scan.Best(4, newest, l...)
		scan.Best(4, in, l...)
		scan.Greatest(l...)
		for range scan.Needed(in) {
		}
		settled(t, name, 4, in, n/4-1, -1)
		if _, _, e := scan.Table(4, 256, 1, in); e != api.ErrArg {
			t.Error(name, e)
		}
	}
	// Each logical block in a block of its own: what is settled is not asked for block by block.
	in := make([]api.Place, 256*32)
	for p := range in {
		in[p] = at(p/32, p%32)
	}
	for range 100 {
		if _, loose, e := scan.Table(32, 256, 1, in); e != api.OK || len(loose) > 0 {
			t.Fatal(loose, e)
		}
	}
}

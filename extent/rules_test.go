package extent_test

import (
	"math"
	"slices"
	"strings"
	"testing"
	"time"

	"slipway/api"
	"slipway/extent"
)

var oddNumbers = []int{math.MinInt, math.MinInt + 1, math.MinInt32, -65536, -4096, -1, 0, 1, 2, 4095, 4096, 4097, 8191, 8192, 65535, 65536, 65537, math.MaxInt32, 1 << 32, math.MaxInt - 65536, math.MaxInt - 1, math.MaxInt}

// Whatever is handed in: each call ends, none panics, and with an error all else is zero.
func TestR1AndR2(t *testing.T) {
	lists := [][]api.Extent{nil, {}, list("0+4@10 9+2@30"), list("61440+4096@4096"), list("9+2@30 0+4@10")}
	for _, a := range oddNumbers {
		for _, b := range oddNumbers {
			for _, l := range lists {
				calls(t, l, a, b)
			}
			for _, c := range oddNumbers {
				e := api.Extent{Logical: a, Len: b, Phys: c}
				is(t, "One", extent.One(e), right(mayBe(e)))
				for _, l := range lists {
					now, gone, err := extent.Put(l, e)
					is(t, "Put", err, right(mayBe(e) && extent.Check(l) == api.OK))
					is(t, "Put", err == api.OK || now == nil && gone == nil, true)
				}
				calls(t, []api.Extent{e, {Logical: 9, Len: 1, Phys: 1}, e}, a, c)
			}
		}
	}
}

// calls does all calls that take a list.
func calls(t *testing.T, l []api.Extent, a, b int) {
	t.Helper()
	ok := extent.Check(l) == api.OK
	left, gone, e := extent.Punch(l, a, b)
	is(t, "Punch", e == api.OK, ok && a >= 0 && a <= 65536 && b >= 0)
	is(t, "Punch", e == api.OK || left == nil && gone == nil, true)
	phys, many, found := extent.At(l, a)
	is(t, "At", found, phys > 0)
	is(t, "At", many > 0, a >= 0 && a < 65536)
	for part := range extent.Runs(l, a, b) {
		is(t, "Runs", ok && mayBe(part) && part.Logical >= a && part.Logical+part.Len <= b, true)
	}
	for first, many := range extent.Holes(l, a, b) {
		is(t, "Holes", many > 0 && first >= max(a, 0) && first+many <= min(b, 65536), true)
	}
	is(t, "Blocks", extent.Blocks(l) > 0, ok && len(l) > 0)
	is(t, "End", extent.End(l) > 0, ok && len(l) > 0)
	is(t, "Same", extent.Same(l, l), true)
	is(t, "Apart", extent.Apart(l, l), ok && len(l) == 0)
	now, e := extent.Norm(l...)
	is(t, "Norm", e == api.OK || now == nil, true)
}

// What is handed in is not written to, nor what stands behind it.
func TestR3HandedIn(t *testing.T) {
	for _, x := range append(append(taken(), refused()...), "9+1@5 0+2@10 4+3@13 2+2@12", "8+2@30 0+4@10 4+1@14") {
		whole := append(list(x), list("7+7@7 7+7@7 7+7@7 7+7@7")...)
		l, was := whole[:len(whole)-4], slices.Clone(whole)
		extent.Check(l)
		extent.Norm(l...)
		extent.Blocks(l)
		extent.End(l)
		extent.Apart(l, l)
		extent.Apart([][]api.Extent{l, l[:len(l)/2]}...)
		extent.Same(l, l)
		for from := range 12 {
			extent.At(l, from)
			for n := range 12 {
				extent.Punch(l, from, n)
				extent.Put(l, api.Extent{Logical: from, Len: n, Phys: 10 + n})
				for range extent.Runs(l, from, from+n) {
				}
				for range extent.Holes(l, from, from+n) {
				}
			}
		}
		is(t, "what was handed in", text(whole), text(was))
	}
}

// scribble writes on all that a list reaches, also behind its end.
func scribble(l []api.Extent) {
	l = l[:cap(l)]
	for i := range l {
		l[i] = api.Extent{Logical: -7, Len: -7, Phys: -7}
	}
}

// answers are the lists that calls answer of one that is handed in: also where nothing is changed.
func answers(l []api.Extent) [][]api.Extent {
	var all [][]api.Extent
	keep := func(now, gone []api.Extent, _ api.Errno) { all = append(all, now, gone) }
	keep(extent.Punch(l, 0, 0))
	keep(extent.Punch(l, 0, 65536))
	keep(extent.Punch(l, 3, 6))
	keep(extent.Put(l, api.Extent{Logical: 100, Len: 1, Phys: 1}))
	keep(extent.Put(l, api.Extent{Logical: 3, Len: 6, Phys: 1}))
	keep(extent.Put(l, api.Extent{Logical: 0, Len: 50, Phys: 1}))
	now, _ := extent.Norm(l...)
	return append(all, now, slices.Collect(extent.Runs(l, 0, 65536)))
}

// What is answered shares no memory with what was handed in, nor with another answer.
func TestR3Answers(t *testing.T) {
	const x = "2+6@10 8+2@40 12+4@20"
	want := answers(list(x))
	l := list(x)
	got := answers(l)
	scribble(l)
	for i := range got {
		is(t, "an answer", text(got[i]), text(want[i]))
		scribble(got[i])
	}
	l = list(x)
	for _, a := range answers(l) {
		scribble(a)
		is(t, "what was handed in", text(l), x)
	}
}

// An iterator tells what was there when it was asked for.
func TestR3Iterator(t *testing.T) {
	const x = "2+6@10 8+2@40 12+4@20"
	l := list(x)
	parts, between := extent.Runs(l, 3, 20), extent.Holes(l, 3, 20)
	scribble(l)
	for range 3 {
		var got []api.Extent
		for e := range parts {
			got = append(got, e)
			copy(l, list("0+1@1 2+1@3 4+1@5"))
		}
		is(t, "Runs", text(got), "3+5@11 8+2@40 12+4@20")
		var pairs []int
		for first, many := range between {
			pairs = append(pairs, first, many)
			scribble(l)
		}
		is(t, "Holes", slices.Equal(pairs, []int{10, 2, 16, 4}), true)
	}
	// Those of a list that was refused tell nothing of it, also if that is mended later.
	l = list("2+6@10 8+2@16")
	parts, between = extent.Runs(l, 0, 20), extent.Holes(l, 0, 20)
	l[1].Phys = 40
	is(t, "Runs of what was refused", len(slices.Collect(parts)), 0)
	for first, many := range between {
		is(t, "Holes of what was refused", [2]int{first, many}, [2]int{0, 20})
	}
}

// Empty and nil lists are the same.
func TestR4(t *testing.T) {
	for _, l := range [][]api.Extent{nil, {}} {
		is(t, "Check", extent.Check(l), api.OK)
		is(t, "At", at(l, 7), place{0, 65529, false})
		is(t, "Runs", runs(l, 0, 65536), "")
		is(t, "Holes", holes(l, 0, 9), "0+9 ")
		is(t, "Blocks and End", extent.Blocks(l)+extent.End(l), 0)
		is(t, "Apart", extent.Apart(l), true)
		is(t, "Same", extent.Same(l, nil) && extent.Same([]api.Extent{}, l), true)
		left, gone, e := extent.Punch(l, 3, 4)
		is(t, "Punch", len(left)+len(gone)+int(e), 0)
		now, gone, e := extent.Put(l, api.Extent{Len: 1, Phys: 1})
		is(t, "Put", text(now)+text(gone)+e.Error(), "0+1@1"+api.OK.Error())
		now, e = extent.Norm(l...)
		is(t, "Norm", len(now)+int(e), 0)
	}
	is(t, "Apart", extent.Apart(), extent.Apart([][]api.Extent{}...))
}

func TestR6(t *testing.T) {
	all := func() string {
		var said strings.Builder
		var s stream = 31
		for range 100 {
			l := s.extents()
			now, gone, _ := extent.Put(l, s.one())
			said.WriteString(text(now) + text(gone))
			left, gone, _ := extent.Punch(now, s.below(65536), s.below(9999))
			said.WriteString(text(left) + text(gone) + holes(left, 0, 65536))
			norm, _ := extent.Norm(s.pieces(l)...)
			said.WriteString(text(norm))
		}
		return said.String()
	}
	is(t, "the same calls", all() == all(), true)
}

// The longest list that may be is gone through in time, and one that is far too long is refused in time.
func TestTheBound(t *testing.T) {
	begun := time.Now()
	var l, back []api.Extent
	for i := range 65536 {
		l = append(l, api.Extent{Logical: i, Len: 1, Phys: 1 + 5*i%8191})
	}
	for i := range l {
		back = append(back, l[len(l)-1-i])
	}
	for range 20 {
		is(t, "Check", extent.Check(l), api.OK)
		is(t, "Blocks", extent.Blocks(l), 65536)
		now, e := extent.Norm(back...)
		is(t, "Norm", e, api.OK)
		is(t, "Same", extent.Same(now, l), true)
		now, gone, e := extent.Punch(l, 100, math.MaxInt)
		is(t, "Punch", len(now)*100000+len(gone)+int(e), 100*100000+65436)
		now, gone, e = extent.Put(l, api.Extent{Logical: 100, Len: 4096, Phys: 1})
		is(t, "Put", len(now)*100000+len(gone)+int(e), 61441*100000+4096)
		is(t, "Apart", extent.Apart(l, l, l), false)
	}
	long := slices.Repeat(list("0+1@1 2+1@3"), 1<<20)
	for range 1000 {
		is(t, "Check", extent.Check(long), api.ErrExtent)
		is(t, "Holes", holes(long, 0, 4), "0+4 ")
	}
	var lists [][]api.Extent
	for i := range 8191 {
		lists = append(lists, []api.Extent{{Len: 1, Phys: 8191 - i}})
	}
	is(t, "Apart", extent.Apart(lists...), true)
	is(t, "Apart", extent.Apart(append(lists, lists[4000])...), false)
	if took := time.Since(begun); took > 20*time.Second {
		t.Error("it took", took)
	}
}

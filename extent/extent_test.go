package extent_test

import (
	"math"
	"slices"
	"strconv"
	"strings"
	"testing"

	"slipway/api"
	"slipway/extent"
)

func is[T comparable](t *testing.T, name string, got, want T) {
	t.Helper()
	if got != want {
		t.Errorf("%s: %v, want %v", name, got, want)
	}
}

// list reads extents as the chapter writes them: 0+4@10 is four blocks from block 0 on, at block 10 of the disk.
func list(text string) []api.Extent {
	var l []api.Extent
	for _, word := range strings.Fields(text) {
		var n [3]int
		for i, digits := range strings.FieldsFunc(word, func(c rune) bool { return c == '+' || c == '@' }) {
			n[i], _ = strconv.Atoi(digits)
		}
		l = append(l, api.Extent{Logical: n[0], Len: n[1], Phys: n[2]})
	}
	return l
}

// text writes extents as list reads them.
func text(l []api.Extent) string {
	words := make([]string, len(l))
	for i, e := range l {
		words[i] = strconv.Itoa(e.Logical) + "+" + strconv.Itoa(e.Len) + "@" + strconv.Itoa(e.Phys)
	}
	return strings.Join(words, " ")
}

// refused are lists that Check refuses, each for one reason alone.
func refused() []string {
	return []string{
		"-1+1@1", "65536+1@1", "0+0@1", "0+-1@1", "0+4097@1", "0+1@0", "0+1@-1", "0+1@8192",
		"65535+2@1", "61441+4096@1", "0+2@8191", "0+4096@4097",
		"0+2@10 4+1@0", "4+1@0 6+2@10", "0+2@10 4+1@0 6+2@20",
		"4+2@10 0+2@20", "0+2@10 8+2@20 4+2@30", "4+2@10 3+1@20",
		"0+2@10 1+2@20", "0+2@10 0+2@20", "0+2@10 0+2@10", "0+5@10 1+1@20", "0+5@10 4+1@20",
		"0+4@10 4+1@14", "0+1@10 1+1@11", "0+4095@1 4095+1@4096", "0+1@1 1+4095@2", "0+2048@1 2048+2048@2049",
		"0+1@5 2+4@10 6+1@14", "0+4@10 4+1@14 8+1@30",
	}
}

// taken are lists that Check takes.
func taken() []string {
	return []string{
		"", "0+1@1", "0+4@10", "7+4@10", "65535+1@1", "0+1@8191", "65535+1@8191", "0+4096@1", "0+4096@4096", "61440+4096@4096",
		"0+2@10 4+2@20", "0+4@10 4+1@15", "0+4@10 4+1@13", "0+4@10 4+1@9", "0+4@10 5+1@14", "0+4@10 4+4@10", "0+4@10 8+4@10",
		"0+4096@1 4096+1@4097", "0+1@1 1+4096@2", "0+4000@1 4000+97@4001", "0+2048@1 2048+2049@2049", "0+4096@1 4096+4095@4097",
		"3+2@40 8+3@20 11+1@40 12+5@50 60000+2@1",
	}
}

func mayBe(e api.Extent) bool {
	return 0 <= e.Logical && e.Logical <= 65535 && 1 <= e.Len && e.Len <= 4096 && 1 <= e.Phys && e.Phys <= 8191 &&
		e.Logical+e.Len-1 <= 65535 && e.Phys+e.Len-1 <= 8191
}

func right(ok bool) api.Errno {
	if ok {
		return api.OK
	}
	return 130
}

func TestP131One(t *testing.T) {
	for _, x := range []struct {
		e  api.Extent
		ok bool
	}{
		{api.Extent{}, false}, {api.Extent{Len: 1, Phys: 1}, true},
		{api.Extent{Logical: -1, Len: 1, Phys: 1}, false}, {api.Extent{Logical: 65535, Len: 1, Phys: 1}, true}, {api.Extent{Logical: 65536, Len: 1, Phys: 1}, false},
		{api.Extent{Len: -1, Phys: 1}, false}, {api.Extent{Len: 0, Phys: 1}, false}, {api.Extent{Len: 4096, Phys: 1}, true}, {api.Extent{Len: 4097, Phys: 1}, false},
		{api.Extent{Len: 1, Phys: -1}, false}, {api.Extent{Len: 1, Phys: 0}, false}, {api.Extent{Len: 1, Phys: 8191}, true}, {api.Extent{Len: 1, Phys: 8192}, false},
		{api.Extent{Logical: 65535, Len: 2, Phys: 1}, false}, {api.Extent{Logical: 65534, Len: 2, Phys: 1}, true},
		{api.Extent{Logical: 61440, Len: 4096, Phys: 1}, true}, {api.Extent{Logical: 61441, Len: 4096, Phys: 1}, false},
		{api.Extent{Len: 2, Phys: 8190}, true}, {api.Extent{Len: 2, Phys: 8191}, false},
		{api.Extent{Len: 4096, Phys: 4096}, true}, {api.Extent{Len: 4096, Phys: 4097}, false},
		{api.Extent{Logical: math.MaxInt, Len: 1, Phys: 1}, false}, {api.Extent{Logical: math.MinInt, Len: 1, Phys: 1}, false},
		{api.Extent{Len: math.MaxInt, Phys: 1}, false}, {api.Extent{Len: math.MinInt, Phys: 1}, false},
		{api.Extent{Len: 1, Phys: math.MaxInt}, false}, {api.Extent{Len: 1, Phys: math.MinInt}, false},
		{api.Extent{Logical: math.MinInt, Len: math.MinInt, Phys: math.MinInt}, false}, {api.Extent{Logical: math.MaxInt, Len: math.MaxInt, Phys: math.MaxInt}, false},
	} {
		is(t, text([]api.Extent{x.e}), extent.One(x.e), right(x.ok))
	}
}

// near are numbers beside the edges that a field can have.
func near(edges ...int) []int {
	l := []int{math.MinInt, math.MinInt + 1, math.MaxInt - 1, math.MaxInt, math.MinInt32, math.MaxInt32, 1 << 32}
	for _, at := range edges {
		l = append(l, at-2, at-1, at, at+1, at+2)
	}
	return l
}

func TestP131OneOfAllEdges(t *testing.T) {
	for _, logical := range near(0, 61440, 65535, -65536, math.MinInt+4096, math.MaxInt-4096) {
		for _, many := range near(0, 1, 4096, -4096, 65536) {
			for _, phys := range near(1, 4096, 8191, -8192, math.MaxInt-4096) {
				e := api.Extent{Logical: logical, Len: many, Phys: phys}
				if extent.One(e) != right(mayBe(e)) {
					t.Fatalf("One of %+v: %v", e, extent.One(e))
				}
			}
		}
	}
}

func TestP131Check(t *testing.T) {
	is(t, "nil", extent.Check(nil), api.OK)
	is(t, "empty", extent.Check([]api.Extent{}), api.OK)
	for _, l := range taken() {
		is(t, "Check of "+l, extent.Check(list(l)), api.OK)
	}
	for _, l := range refused() {
		is(t, "Check of "+l, extent.Check(list(l)), api.ErrExtent)
	}
	for _, n := range []int{math.MinInt, math.MaxInt} {
		for _, e := range []api.Extent{{Logical: n, Len: 1, Phys: 1}, {Len: n, Phys: 1}, {Len: 1, Phys: n}, {Logical: n, Len: n, Phys: n}} {
			is(t, "the first", extent.Check([]api.Extent{e, {Logical: 9, Len: 1, Phys: 9}}), api.ErrExtent)
			is(t, "the second", extent.Check([]api.Extent{{Logical: 9, Len: 1, Phys: 9}, e}), api.ErrExtent)
		}
	}
}

// inForm is what Check is to tell of extents that are together shorter than MaxRun.
func inForm(l []api.Extent) bool {
	last, disk := -1, -1
	for _, e := range l {
		if !mayBe(e) || e.Logical <= last || e.Logical == last+1 && e.Phys == disk+1 {
			return false
		}
		last, disk = e.Logical+e.Len-1, e.Phys+e.Len-1
	}
	return true
}

// Of all lists of at most three small extents, at the beginning and at the end of the file and of the disk.
func TestP131CheckOfAllSmall(t *testing.T) {
	for _, base := range []api.Extent{{Logical: 0, Phys: 1}, {Logical: 65533, Phys: 8189}} {
		var all []api.Extent
		for logical := -1; logical <= 3; logical++ {
			for many := range 4 {
				for phys := -1; phys <= 3; phys++ {
					all = append(all, api.Extent{Logical: base.Logical + logical, Len: many, Phys: base.Phys + phys})
				}
			}
		}
		check := func(l ...api.Extent) {
			if extent.Check(l) != right(inForm(l)) {
				t.Fatalf("Check of %s: %v", text(l), extent.Check(l))
			}
		}
		for _, a := range all {
			check(a)
			for _, b := range all {
				check(a, b)
				for _, c := range all {
					check(a, b, c)
				}
			}
		}
	}
}

// A list that Check refuses is one of nothing, or ErrExtent, whatever else is wrong.
func TestP131Refused(t *testing.T) {
	for _, x := range refused() {
		l := list(x)
		for _, n := range []int{-1, 0, 1, 4, 65535, 65536, 65537, math.MinInt, math.MaxInt} {
			phys, many, ok := extent.At(l, n)
			wantPhys, wantMany, wantOk := extent.At(nil, n)
			is(t, "At of "+x, phys == wantPhys && many == wantMany && ok == wantOk, true)
			for _, m := range []int{-1, 0, 1, 65536, math.MinInt, math.MaxInt} {
				failed(t, "Punch of "+x, api.ErrExtent)(extent.Punch(l, n, m))
				is(t, "Runs of "+x, text(slices.Collect(extent.Runs(l, n, m))), "")
				is(t, "Holes of "+x, holes(l, n, m), holes(nil, n, m))
			}
			failed(t, "Put of "+x, api.ErrExtent)(extent.Put(l, api.Extent{Logical: n, Len: 1, Phys: 1}))
		}
		is(t, "Holes of "+x, holes(l, 0, 10), "0+10 ")
		failed(t, "Put of "+x, api.ErrExtent)(extent.Put(l, api.Extent{Logical: 5, Len: 1, Phys: 1}))
		is(t, "Blocks of "+x, extent.Blocks(l), 0)
		is(t, "End of "+x, extent.End(l), 0)
		is(t, "Same of "+x, extent.Same(l, nil), true)
		is(t, "Same of "+x, extent.Same(nil, l), true)
		is(t, "Same of "+x, extent.Same(l, list("-1+1@1")), true)
		is(t, "Same of "+x, extent.Same(l, list("0+1@1")), false)
		is(t, "Same of "+x, extent.Same(list("0+1@1"), l), false)
	}
}

// failed fails if a call did not answer an error, with nil beside it.
func failed(t *testing.T, name string, want api.Errno) func(now, gone []api.Extent, e api.Errno) {
	t.Helper()
	return func(now, gone []api.Extent, e api.Errno) {
		t.Helper()
		if e != want || now != nil || gone != nil {
			t.Errorf("%s: %v, %v, %v, want %v", name, now, gone, e, want)
		}
	}
}

type place struct {
	phys, many int
	ok         bool
}

func at(l []api.Extent, block int) place {
	phys, many, ok := extent.At(l, block)
	return place{phys, many, ok}
}

func TestP132At(t *testing.T) {
	l := list("3+4@10 7+2@40 9+3@43 20+1@5")
	for block, want := range map[int]place{
		0: {0, 3, false}, 1: {0, 2, false}, 2: {0, 1, false},
		3: {10, 4, true}, 4: {11, 3, true}, 6: {13, 1, true}, 7: {40, 2, true}, 8: {41, 1, true}, 9: {43, 3, true}, 11: {45, 1, true},
		12: {0, 8, false}, 15: {0, 5, false}, 19: {0, 1, false}, 20: {5, 1, true}, 21: {0, 65515, false}, 65535: {0, 1, false},
		-1: {}, 65536: {}, 65537: {}, math.MinInt: {}, math.MaxInt: {},
	} {
		is(t, "At of "+strconv.Itoa(block), at(l, block), want)
	}
	is(t, "nothing", at(nil, 0), place{0, 65536, false})
	is(t, "nothing", at(nil, 65535), place{0, 1, false})
	is(t, "nothing", at(nil, -1), place{})
	is(t, "nothing", at(nil, 65536), place{})
	end := list("61440+4096@4096")
	is(t, "the last blocks", at(end, 61439), place{0, 1, false})
	is(t, "the last blocks", at(end, 61440), place{4096, 4096, true})
	is(t, "the last blocks", at(end, 65535), place{8191, 1, true})
	is(t, "the last blocks", at(end, 65536), place{})
	// In that extent alone, also where the next one goes on.
	is(t, "long runs", at(list("0+4096@1 4096+9@4097"), 4090), place{4091, 6, true})
}

type norm struct{ of, want string }

func TestP132Norm(t *testing.T) {
	for _, x := range []norm{
		{"", ""}, {"5+1@9", "5+1@9"},
		{"8+2@30 0+4@10 4+1@14", "0+5@10 8+2@30"},
		{"4+1@14 0+4@10", "0+5@10"}, {"0+4@10 4+1@15", "0+4@10 4+1@15"}, {"0+4@10 4+1@13", "0+4@10 4+1@13"}, {"4+1@14 0+3@10", "0+3@10 4+1@14"},
		{"2+1@3 0+1@1 4+1@5 3+1@4 1+1@2", "0+5@1"}, {"9+1@10 0+1@9", "0+1@9 9+1@10"},
		{"0+1@2 1+1@1", "0+1@2 1+1@1"}, {"0+2@10 2+2@10", "0+2@10 2+2@10"},
		{"4095+1@4096 0+4095@1", "0+4096@1"}, {"4095+2@4096 0+4095@1", "0+4095@1 4095+2@4096"},
		{"0+2000@1 2000+2000@2001 4000+96@4001", "0+4096@1"}, {"0+2000@1 2000+2000@2001 4000+97@4001", "0+4000@1 4000+97@4001"},
		{"0+4096@1 4096+1@4097 4097+1@4098", "0+4096@1 4096+2@4097"}, {"1+4095@2 0+1@1", "0+4096@1"}, {"1+4096@2 0+1@1", "0+1@1 1+4096@2"},
		{"4096+4000@4097 0+4096@1 8096+95@8097", "0+4096@1 4096+4095@4097"},
		{"65535+1@8191 65534+1@8190", "65534+2@8190"},
	} {
		l, e := extent.Norm(list(x.of)...)
		is(t, "Norm of "+x.of, e, api.OK)
		is(t, "Norm of "+x.of, text(l), x.want)
	}
	for _, l := range taken() {
		now, e := extent.Norm(list(l)...)
		is(t, "Norm of "+l, text(now), l)
		is(t, "Norm of "+l, e, api.OK)
	}
}

func TestP132NormRefuses(t *testing.T) {
	for _, x := range []string{
		"0+2@10 1+2@20", "1+2@20 0+2@10", "0+2@10 0+2@10", "0+1@10 0+1@11", "0+9@10 3+2@100", "3+2@100 0+9@10", "8+1@100 0+9@10",
		"0+3@10 3+3@13 5+1@50", "5+1@50 3+3@13 0+3@10", "0+3@10 9+3@13 11+2@50 4+1@9", "0+4096@1 4095+2@4096",
		"-1+1@1", "65536+1@1", "0+0@1", "0+-1@1", "0+4097@1", "0+1@0", "0+1@8192", "65535+2@1", "0+2@8191",
		"0+1@1 2+1@0", "2+1@0 0+1@1", "0+1@1 2+0@5 3+1@9", "5+1@1 -9+4@5", "0+1@1 1+4096@4097",
	} {
		l, e := extent.Norm(list(x)...)
		is(t, "Norm of "+x, e, api.ErrExtent)
		is(t, "Norm of "+x, l == nil, true)
	}
	for _, n := range []int{math.MinInt, math.MaxInt} {
		for _, e := range []api.Extent{{Logical: n, Len: 1, Phys: 1}, {Len: n, Phys: 1}, {Len: 1, Phys: n}, {Logical: n, Len: n, Phys: n}} {
			for _, l := range [][]api.Extent{{e}, {e, {Logical: 9, Len: 1, Phys: 9}}, {{Logical: 9, Len: 1, Phys: 9}, e}, {e, e}} {
				now, err := extent.Norm(l...)
				is(t, "Norm", err, api.ErrExtent)
				is(t, "Norm", now == nil, true)
			}
		}
	}
}

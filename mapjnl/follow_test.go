package mapjnl_test

import (
	"slices"
	"testing"

	"slipway/api"
	"slipway/mapjnl"
)

// shuffle is a list in any order.
func shuffle[T any](s *stream, l []T) []T {
	l = slices.Clone(l)
	for i := range l {
		j := s.below(i + 1)
		l[i], l[j] = l[j], l[i]
	}
	return l
}

// twice is a list in any order, some of it, or all, more than once.
func twice[T any](s *stream, l []T) []T {
	again := slices.Clone(l)
	for range len(l) {
		again = append(again, l[s.below(len(l))])
	}
	return shuffle(s, append(again, l...))
}

func join(t *testing.T, a, b api.MapState) api.MapState {
	t.Helper()
	x, e := mapjnl.Join(a, b)
	if e != api.OK || mapjnl.Check(x) != api.OK {
		t.Fatal("Join", x, e)
	}
	return x
}

func apply(t *testing.T, x api.MapState, l ...api.MapRecord) api.MapState {
	t.Helper()
	y, e := mapjnl.Apply(x, l...)
	if e != api.OK || mapjnl.Check(y) != api.OK {
		t.Fatal("Apply", y, e)
	}
	return y
}

func replay(t *testing.T, blocks int, l ...api.MapPage) (api.MapState, int64) {
	t.Helper()
	x, gen, e := mapjnl.Replay(blocks, l...)
	if e != api.OK || mapjnl.Check(x) != api.OK {
		t.Fatal("Replay", x, gen, e)
	}
	return x, gen
}

func TestP66JoinOnlyGrows(t *testing.T) {
	var s stream = 66
	for range 300 {
		for _, blocks := range sizes {
			a, b, c := s.state(blocks), s.state(blocks), s.state(blocks)
			ab := join(t, a, b)
			if !mapjnl.Same(ab, join(t, b, a)) {
				t.Fatal("it is not commutative", a, b)
			}
			if !mapjnl.Same(join(t, ab, c), join(t, a, join(t, b, c))) {
				t.Fatal("it is not associative", a, b, c)
			}
			if !mapjnl.Same(join(t, a, a), a) || !mapjnl.Same(join(t, ab, b), ab) {
				t.Fatal("it is not idempotent", a, b)
			}
			if !mapjnl.Covers(ab, a) || !mapjnl.Covers(ab, b) || mapjnl.Covers(a, ab) != mapjnl.Same(a, ab) {
				t.Fatal("what is joined does not cover its parts alone", a, b)
			}
		}
	}
}

func TestP66ApplyOnlyGrows(t *testing.T) {
	var s stream = 661
	grew := 0
	for range 300 {
		for _, blocks := range sizes {
			x := s.state(blocks)
			l := append(s.records(blocks, 30), s.record(blocks))
			y := apply(t, x, l...)
			if !mapjnl.Covers(y, x) {
				t.Fatal("what was made does not cover what it was made of", x, l)
			}
			if !mapjnl.Same(x, y) {
				grew++
			}
			if !mapjnl.Same(apply(t, x, shuffle(&s, l)...), y) || !mapjnl.Same(apply(t, x, twice(&s, l)...), y) || !mapjnl.Same(apply(t, y, l...), y) {
				t.Fatal("the order counts, or that they came twice", x, l)
			}
			z := x
			for _, r := range l {
				z = apply(t, z, r)
			}
			if !mapjnl.Same(z, y) {
				t.Fatal("one by one they come to something else", x, l)
			}
		}
	}
	if grew < 1000 {
		t.Error("but few grew:", grew)
	}
}

func TestP67AnyOrder(t *testing.T) {
	var s stream = 67
	for range 200 {
		for _, blocks := range sizes {
			var l []api.MapPage
			for range 1 + s.below(9) {
				p := s.page()
				if s.below(4) == 0 {
					p = s.spoiled(p)
				}
				l = append(l, p)
			}
			x, gen := replay(t, blocks, l...)
			for _, other := range [][]api.MapPage{shuffle(&s, l), shuffle(&s, l), twice(&s, l), append(slices.Clone(l), l...)} {
				if y, g := replay(t, blocks, other...); !mapjnl.Same(x, y) || g != gen {
					t.Fatal("the order counts, or that they came twice", l)
				}
			}
			fewer := shuffle(&s, l)[:s.below(len(l)+1)]
			if y, g := replay(t, blocks, fewer...); !mapjnl.Covers(x, y) || g > gen {
				t.Fatal("with fewer pages it knows more", l, fewer)
			}
		}
	}
}

func TestP68ThereAndBack(t *testing.T) {
	var s stream = 68
	for range 200 {
		for _, blocks := range sizes {
			a := s.state(blocks)
			gen := s.number(api.MaxGen - 1)
			pages, e := mapjnl.Checkpoint(a, gen)
			is(t, "Checkpoint", e, api.OK)
			pages = throughBytes(t, pages)
			if x, g := replay(t, blocks, pages...); !mapjnl.Same(x, a) || g != gen {
				t.Fatal("a checkpoint is not its state", a, x, g)
			}
			b := join(t, a, s.state(blocks))
			l, e := mapjnl.Diff(a, b)
			is(t, "Diff", e, api.OK)
			if !mapjnl.Same(apply(t, a, l...), b) {
				t.Fatal("Apply of Diff is not the other one", a, b, l)
			}
			for chunk := range slices.Chunk(l, api.MaxRecords) {
				p, e := mapjnl.Records(gen+1, chunk...)
				is(t, "Records", e, api.OK)
				pages = append(pages, throughBytes(t, []api.MapPage{p})...)
			}
			x, g := replay(t, blocks, pages...)
			if !mapjnl.Same(x, b) || len(l) > 0 && g != gen+1 {
				t.Fatal("Records of Diff do not make the other one", a, b, x, g)
			}
			if x, _ := replay(t, blocks, shuffle(&s, pages)...); !mapjnl.Same(x, b) {
				t.Fatal("in another order they make something else")
			}
		}
	}
}

// throughBytes is pages as they come back of their bytes.
func throughBytes(t *testing.T, pages []api.MapPage) []api.MapPage {
	t.Helper()
	var l []api.MapPage
	for _, p := range pages {
		b, e := mapjnl.Bytes(p)
		if e != api.OK || len(b) != api.PageLen {
			t.Fatal("Bytes", p, e)
		}
		q, e := mapjnl.Parse(b)
		if e != api.OK || !mapjnl.SamePage(p, q) {
			t.Fatal("Parse of Bytes is another page", p, q, e)
		}
		l = append(l, q)
	}
	return l
}

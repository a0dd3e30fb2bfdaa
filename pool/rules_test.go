package pool_test

import (
	"math"
	"slices"
	"testing"

	"slipway/api"
	"slipway/pool"
)

// guarded is a pool with room behind its lists that is none of the callee's: what is written there, or to the lists, is told by intact.
type guarded struct{ whole, was api.Pool }

func guard(p api.Pool) (guarded, api.Pool) {
	whole := api.Pool{
		Roles: append(slices.Clone(p.Roles), slices.Repeat([]int{0x5a}, 300)...),
		Wear:  append(slices.Clone(p.Wear), slices.Repeat([]int64{0x5a}, 300)...),
	}
	return guarded{whole, copied(whole)}, api.Pool{Roles: whole.Roles[:len(p.Roles)], Wear: whole.Wear[:len(p.Wear)]}
}

func (g guarded) intact(t *testing.T, name string) {
	t.Helper()
	if !equal(g.whole, g.was) {
		t.Errorf("%s wrote to what was handed in", name)
	}
}

// scribble writes on all that a pool reaches, also behind its lists' ends.
func scribble(p api.Pool) {
	roles, wear := p.Roles[:cap(p.Roles)], p.Wear[:cap(p.Wear)]
	for i := range roles {
		roles[i] = ^roles[i]
	}
	for i := range wear {
		wear[i] = ^wear[i]
	}
}

// changes are all calls that make a pool of another one.
func changes() map[string]func(p api.Pool) api.Pool {
	return map[string]func(p api.Pool) api.Pool{
		"Take":      func(p api.Pool) api.Pool { q, _ := pool.Take(p, 6, api.RoMap); return q },
		"Give":      func(p api.Pool) api.Pool { q, _ := pool.Give(p, 1); return q },
		"Erased":    func(p api.Pool) api.Pool { q, _ := pool.Erased(p, 4); return q },
		"Retire":    func(p api.Pool) api.Pool { q, _ := pool.Retire(p, 15); return q },
		"Wears":     func(p api.Pool) api.Pool { q, _ := pool.Wears(p, slices.Repeat([]int64{14}, 16)...); return q },
		"Wears low": func(p api.Pool) api.Pool { q, _ := pool.Wears(p, make([]int64, 16)...); return q },
		"Clone":     func(p api.Pool) api.Pool { return pool.Clone(p) },
	}
}

// No call panics, whatever it is given.
func TestR1(t *testing.T) {
	numbers := []int{math.MinInt, math.MinInt + 1, -257, -1, 0, 1, 6, 7, 15, 16, 17, 255, 256, 257, math.MaxInt - 1, math.MaxInt}
	pools := badPools()
	pools["new"], pools["of each role"], pools["of the most blocks"] = inOrder(api.RoFree), eachRole(), mustNew(t, 256)
	for _, p := range pools {
		for _, n := range numbers {
			pool.New(n, n)
			pool.Give(p, n)
			pool.Erased(p, n)
			pool.Retire(p, n)
			pool.Count(p, n)
			pool.Cold(p, int64(n))
			pool.Wears(p, int64(n))
			for range pool.All(p, n) {
			}
			for _, m := range numbers {
				pool.Take(p, n, m)
			}
		}
		pool.Choose(p)
		pool.Spread(p)
		pool.Same(p, p)
		pool.Clone(p)
	}
	for _, a := range numbers {
		for _, b := range numbers {
			for _, c := range numbers {
				n, e := pool.Capacity(api.Geometry{Blocks: a, Pages: b}, c, 1, c)
				m, f := pool.Capacity(api.Geometry{Blocks: 256, Pages: 32}, a, b, c)
				if (n > 0) != (e == api.OK) || (m > 0) != (f == api.OK) || n < 0 || m < 0 || n > 250 || m > 250 {
					t.Error(a, b, c, n, e, m, f)
				}
			}
		}
	}
}

func TestR3HandedIn(t *testing.T) {
	for name, change := range changes() {
		g, p := guard(eachRole())
		got := change(p)
		g.intact(t, name)
		was := copied(got)
		scribble(p)
		if !equal(got, was) || len(got.Roles) != 16 {
			t.Errorf("%s: the answer hangs on what was handed in", name)
		}
	}
	for name, look := range map[string]func(p api.Pool){
		"Check":           func(p api.Pool) { pool.Check(p) },
		"Choose":          func(p api.Pool) { pool.Choose(p) },
		"Count":           func(p api.Pool) { pool.Count(p, api.RoFree) },
		"All":             func(p api.Pool) { tells(t, "All", pool.All(p, api.RoData), 1) },
		"Spread":          func(p api.Pool) { pool.Spread(p) },
		"Cold":            func(p api.Pool) { pool.Cold(p, 1) },
		"Same":            func(p api.Pool) { pool.Same(p, eachRole()); pool.Same(eachRole(), p) },
		"Take, in vain":   func(p api.Pool) { pool.Take(p, 1, api.RoData) },
		"Give, in vain":   func(p api.Pool) { pool.Give(p, 5) },
		"Erased, in vain": func(p api.Pool) { pool.Erased(p, 16) },
		"Retire, in vain": func(p api.Pool) { pool.Retire(p, 5) },
		"Wears, in vain":  func(p api.Pool) { pool.Wears(p, 1, 2) },
	} {
		g, p := guard(eachRole())
		look(p)
		g.intact(t, name)
	}
}

func TestR3HandedInLists(t *testing.T) {
	bad := []int{5, 0, 7, 99, 99}
	p, e := pool.New(16, bad[:3]...)
	if e != api.OK || !slices.Equal(bad, []int{5, 0, 7, 99, 99}) {
		t.Error("New wrote to what was handed in:", bad, e)
	}
	was := copied(p)
	for i := range bad {
		bad[i] = 1
	}
	if !equal(p, was) {
		t.Error("New kept what was handed in")
	}
	whole := slices.Repeat([]int64{3}, 20)
	l := whole[:16]
	q, e := pool.Wears(p, l...)
	if e != api.OK || !slices.Equal(whole, slices.Repeat([]int64{3}, 20)) {
		t.Error("Wears wrote to what was handed in:", whole, e)
	}
	was = copied(q)
	for i := range whole {
		whole[i] = 9
	}
	if !equal(q, was) {
		t.Error("Wears kept what was handed in")
	}
	scribble(q)
	if !slices.Equal(whole, slices.Repeat([]int64{9}, 20)) {
		t.Error("Wears answered what was handed in")
	}
	pool.Wears(p, append(l[:15], -1)...)
	if !equal(p, mustNew(t, 16, 5, 0, 7)) {
		t.Error("Wears changed a pool")
	}
}

// What is answered is nobody's else: neither the argument's, nor another answer's.
func TestR3Answers(t *testing.T) {
	for name, change := range changes() {
		g, p := guard(eachRole())
		first, second := change(p), change(p)
		was := copied(second)
		scribble(first)
		g.intact(t, name+"'s owner")
		if !equal(second, was) {
			t.Errorf("%s: two answers share memory", name)
		}
		third := change(p)
		if !equal(third, was) {
			t.Errorf("%s: an answer was kept", name)
		}
	}
	first, second := mustNew(t, 16, 3), mustNew(t, 16, 3)
	scribble(first)
	if want := inOrder(api.RoFree, 1, 1, 1, api.RoBad); !equal(second, want) || !equal(mustNew(t, 16, 3), want) {
		t.Error("New: two answers share memory")
	}
	// Also of pools that may not be.
	for name, p := range badPools() {
		was := copied(p)
		scribble(pool.Clone(p))
		if !equal(p, was) {
			t.Errorf("%s: Clone answers what was handed in", name)
		}
	}
}

// An iterator tells what was there when it was asked for.
func TestR3All(t *testing.T) {
	p := inOrder(api.RoMap, api.RoData, api.RoFree, api.RoData)
	blocks := pool.All(p, api.RoData)
	p.Roles[0], p.Roles[1] = api.RoFree, api.RoData
	tells(t, "behind a change", blocks, 0, 2)
	tells(t, "asked for anew", pool.All(p, api.RoData), 1, 2)
	var got []int
	for block := range blocks {
		got = append(got, block)
		p.Roles[2], p.Roles[9] = api.RoBad, api.RoData
		tells(t, "within another range", blocks, 0, 2)
	}
	if !slices.Equal(got, []int{0, 2}) {
		t.Error("in the midst of a change:", got)
	}
	scribble(p)
	tells(t, "of a pool that may not be any more", blocks, 0, 2)
	// Nor does it begin to tell what may be only now.
	broken := inOrder(api.RoData)
	broken.Wear[3] = -1
	blocks = pool.All(broken, api.RoData)
	broken.Wear[3] = 0
	tells(t, "of a pool that could not be", blocks)
}

func TestR4EmptyIsNil(t *testing.T) {
	a, e := pool.New(16, []int(nil)...)
	b, f := pool.New(16, []int{}...)
	if e != api.OK || f != api.OK || !equal(a, b) {
		t.Error("New", a, e, b, f)
	}
	empty := api.Pool{Roles: []int{}, Wear: []int64{}}
	if !pool.Same(api.Pool{}, empty) || !pool.Same(empty, api.Pool{}) || !pool.Same(pool.Clone(empty), pool.Clone(api.Pool{})) {
		t.Error("Same")
	}
	is(t, "Check of nil", pool.Check(api.Pool{}), api.ErrPool)
	is(t, "Check of empty", pool.Check(empty), api.ErrPool)
	_, e = pool.Wears(a, []int64{}...)
	is(t, "Wears", e, api.ErrArg)
}

func TestR6(t *testing.T) {
	run := func() []int64 {
		var said []int64
		walk(7, func(name string, was, now api.Pool) {
			block, _ := pool.Choose(now)
			rests, worn, _ := pool.Cold(now, 1)
			said = append(said, int64(block), int64(rests), int64(worn))
			said = append(said, now.Wear...)
		})
		return said
	}
	if !slices.Equal(run(), run()) {
		t.Error("the same calls did not answer the same")
	}
}

// Lists that are far too long are refused, or gone through, in time.
func TestTheBound(t *testing.T) {
	const n = 1 << 22
	bad := make([]int, n)
	for i := range bad {
		bad[i] = i
	}
	p, e := pool.New(256, bad...)
	refused(t, "New", p, e, api.ErrPlace)
	q, e := pool.Wears(mustNew(t, 256), make([]int64, n)...)
	refused(t, "Wears", q, e, api.ErrArg)
	long := api.Pool{Roles: slices.Repeat([]int{api.RoFree}, n), Wear: make([]int64, n)}
	is(t, "Check", pool.Check(long), api.ErrPool)
	if other := pool.Clone(long); !pool.Same(long, other) {
		t.Error("Clone")
	}
}

package pool_test

import (
	"iter"
	"math"
	"slices"
	"strconv"
	"testing"

	"slipway/api"
	"slipway/nand"
	"slipway/pool"
)

// stream is a row of numbers that is the same each time.
type stream uint64

func (s *stream) next() uint64 {
	*s = *s*6364136223846793005 + 1442695040888963407
	return uint64(*s >> 33)
}

func (s *stream) below(n int) int { return int(s.next() % uint64(n)) }

// pool is one that may be, with few wears, so that many are equal, or with any.
func (s *stream) pool() api.Pool {
	blocks := api.MinBlocks + s.below(api.MaxBlocks-api.MinBlocks+1)
	most := []int{1, 2, 5, api.MaxWear + 1}[s.below(4)]
	p := api.Pool{Roles: make([]int, blocks), Wear: make([]int64, blocks)}
	for i := range blocks {
		p.Roles[i] = allRoles[s.below(len(allRoles))]
		p.Wear[i] = int64(s.below(most))
	}
	return p
}

var (
	allRoles = []int{api.RoFree, api.RoData, api.RoSeq, api.RoRand, api.RoMap, api.RoBad}
	oddRoles = []int{math.MinInt, -1, 0, 7, 8, math.MaxInt}
)

func is(t *testing.T, name string, got, want api.Errno) {
	t.Helper()
	if got != want {
		t.Errorf("%s: %v, want %v", name, got, want)
	}
}

func mustNew(t *testing.T, blocks int, bad ...int) api.Pool {
	t.Helper()
	p, e := pool.New(blocks, bad...)
	if e != api.OK {
		t.Fatalf("New(%d, %v): %v", blocks, bad, e)
	}
	return p
}

// inOrder is a pool of 16 blocks of which the first ones have the roles, and all others filling.
func inOrder(filling int, roles ...int) api.Pool {
	p := api.Pool{Roles: slices.Repeat([]int{filling}, 16), Wear: make([]int64, 16)}
	copy(p.Roles, roles)
	return p
}

// worn is p with wears for its first blocks.
func worn(p api.Pool, wears ...int64) api.Pool {
	copy(p.Wear, wears)
	return p
}

// copied is p in other memory, without the program's help.
func copied(p api.Pool) api.Pool {
	return api.Pool{Roles: append([]int{}, p.Roles...), Wear: append([]int64{}, p.Wear...)}
}

func equal(a, b api.Pool) bool {
	return slices.Equal(a.Roles, b.Roles) && slices.Equal(a.Wear, b.Wear)
}

// made fails if a call did not make this pool.
func made(t *testing.T, name string, got api.Pool, e api.Errno, want api.Pool) {
	t.Helper()
	if e != api.OK || !equal(got, want) {
		t.Errorf("%s: %v, %v, want %v", name, got, e, want)
	}
}

// refused fails if a call did not answer this error, or something beside it.
func refused(t *testing.T, name string, got api.Pool, e, want api.Errno) {
	t.Helper()
	if e != want || got.Roles != nil || got.Wear != nil {
		t.Errorf("%s: %v, %v, want %v and an empty pool", name, got, e, want)
	}
}

// tells fails if the iterator does not go through these blocks.
func tells(t *testing.T, name string, blocks iter.Seq[int], want ...int) {
	t.Helper()
	if got := slices.Collect(blocks); !slices.Equal(got, want) {
		t.Errorf("%s: %v, want %v", name, got, want)
	}
}

// badPools may none of them be.
func badPools() map[string]api.Pool {
	of := func(roles, wears int) api.Pool {
		return api.Pool{Roles: slices.Repeat([]int{api.RoFree}, roles), Wear: make([]int64, wears)}
	}
	bad := map[string]api.Pool{
		"zero":                   {},
		"empty":                  {Roles: []int{}, Wear: []int64{}},
		"roles alone":            {Roles: of(16, 0).Roles},
		"wears alone":            {Wear: of(0, 16).Wear},
		"one":                    of(1, 1),
		"too few":                of(15, 15),
		"too many":               of(257, 257),
		"far too many":           of(10000, 10000),
		"a wear more":            of(16, 17),
		"a wear less":            of(17, 16),
		"a wear more than 255":   of(255, 256),
		"a wear less than 256":   of(256, 255),
		"few roles, some wears":  of(15, 16),
		"some roles, few wears":  of(16, 15),
		"many roles, some wears": of(257, 256),
		"some roles, many wears": of(256, 257),
		"twice as many wears":    of(16, 32),
		"all wrong":              {Roles: []int{0, 7}, Wear: []int64{-1}},
	}
	for _, at := range []int{0, 7, 15} {
		for _, role := range oddRoles {
			p := of(16, 16)
			p.Roles[at] = role
			bad["block "+strconv.Itoa(at)+" in the role "+strconv.Itoa(role)] = p
		}
		for _, wear := range []int64{math.MinInt64, -1, api.MaxWear + 1, math.MaxInt64} {
			for _, role := range allRoles {
				p := of(16, 16)
				p.Roles[at], p.Wear[at] = role, wear
				bad["block "+strconv.Itoa(at)+" of wear "+strconv.FormatInt(wear, 10)+" in the role "+strconv.Itoa(role)] = p
			}
		}
	}
	return bad
}

func TestP41Check(t *testing.T) {
	for name, p := range badPools() {
		is(t, name, pool.Check(p), api.ErrPool)
	}
	for _, blocks := range []int{16, 17, 100, 255, 256} {
		for _, role := range allRoles {
			for _, wear := range []int64{0, 1, api.MaxWear - 1, api.MaxWear} {
				p := api.Pool{Roles: slices.Repeat([]int{role}, blocks), Wear: slices.Repeat([]int64{wear}, blocks)}
				is(t, "all alike", pool.Check(p), api.OK)
			}
		}
	}
	var s stream = 1
	for range 200 {
		is(t, "any that may be", pool.Check(s.pool()), api.OK)
	}
}

func TestP41New(t *testing.T) {
	all := make([]int, 256)
	for i := range all {
		all[i] = i
	}
	for _, blocks := range []int{16, 17, 100, 255, 256} {
		for _, bad := range [][]int{nil, {}, {0}, {3}, {blocks - 1}, {5, 0}, {blocks - 1, 7, 0, 1}, all[:blocks]} {
			p, e := pool.New(blocks, bad...)
			want := api.Pool{Roles: slices.Repeat([]int{api.RoFree}, blocks), Wear: make([]int64, blocks)}
			for _, b := range bad {
				want.Roles[b] = api.RoBad
			}
			made(t, "New", p, e, want)
			is(t, "New's pool", pool.Check(p), api.OK)
		}
	}
	none, e := pool.New(16)
	made(t, "no bad ones", none, e, inOrder(api.RoFree))
}

func TestP41NewRefuses(t *testing.T) {
	for _, blocks := range []int{math.MinInt, -16, -1, 0, 1, 15, 257, 1 << 20, math.MaxInt} {
		for _, bad := range [][]int{nil, {0}, {-1}, {300}, {1, 1}} {
			p, e := pool.New(blocks, bad...)
			refused(t, "New of "+strconv.Itoa(blocks), p, e, api.ErrGeometry)
		}
	}
	for _, blocks := range []int{16, 100, 256} {
		for _, bad := range [][]int{
			{-1}, {blocks}, {blocks + 1}, {math.MinInt}, {math.MaxInt},
			{0, -1}, {-1, 0}, {0, 1, blocks}, {blocks, 0, 1},
			{0, 0}, {5, 5}, {blocks - 1, blocks - 1}, {5, 6, 5}, {6, 5, 5}, {4, 3, 2, 1, 4}, {-1, -1}, {blocks, blocks},
		} {
			p, e := pool.New(blocks, bad...)
			refused(t, "New", p, e, api.ErrPlace)
		}
	}
}

// Whatever else is wrong, a pool that may not be is what is told.
func TestP41PoolThatMayNotBe(t *testing.T) {
	for name, p := range badPools() {
		was := copied(p)
		wears := make([]int64, len(p.Roles))
		for _, block := range []int{math.MinInt, -1, 0, 7, 15, 16, 300, math.MaxInt} {
			for _, role := range slices.Concat(allRoles, oddRoles) {
				q, e := pool.Take(p, block, role)
				refused(t, name+": Take", q, e, api.ErrPool)
			}
			q, e := pool.Give(p, block)
			refused(t, name+": Give", q, e, api.ErrPool)
			q, e = pool.Erased(p, block)
			refused(t, name+": Erased", q, e, api.ErrPool)
			q, e = pool.Retire(p, block)
			refused(t, name+": Retire", q, e, api.ErrPool)
		}
		for _, l := range [][]int64{nil, {0}, {-1}, wears, make([]int64, 16)} {
			q, e := pool.Wears(p, l...)
			refused(t, name+": Wears", q, e, api.ErrPool)
		}
		for _, role := range slices.Concat(allRoles, oddRoles) {
			if n := pool.Count(p, role); n != 0 {
				t.Errorf("%s: Count(%d): %d", name, role, n)
			}
			tells(t, name+": All", pool.All(p, role))
		}
		if b, ok := pool.Choose(p); b != 0 || ok {
			t.Errorf("%s: Choose: %d, %v", name, b, ok)
		}
		if a, b := pool.Spread(p); a != 0 || b != 0 {
			t.Errorf("%s: Spread: %d, %d", name, a, b)
		}
		for _, gap := range []int64{math.MinInt64, 0, 1, math.MaxInt64} {
			if a, b, ok := pool.Cold(p, gap); a != 0 || b != 0 || ok {
				t.Errorf("%s: Cold: %d, %d, %v", name, a, b, ok)
			}
		}
		if !equal(p, was) {
			t.Errorf("%s: it was written to", name)
		}
	}
}

// One wrong field is all it takes, also where the rest would have an answer.
func TestP41ColdAndSpreadOfOneWrongField(t *testing.T) {
	good := worn(inOrder(api.RoMap, api.RoData, api.RoFree), 1, 9)
	if a, b, ok := pool.Cold(good, 8); a != 0 || b != 1 || !ok {
		t.Fatal("Cold", a, b, ok)
	}
	for _, spoil := range []func(p *api.Pool){
		func(p *api.Pool) { p.Roles[9] = 0 },
		func(p *api.Pool) { p.Roles[15] = 7 },
		func(p *api.Pool) { p.Wear[9] = -1 },
		func(p *api.Pool) { p.Wear[15] = api.MaxWear + 1 },
		func(p *api.Pool) { p.Wear = append(p.Wear, 0) },
		func(p *api.Pool) { p.Roles = append(p.Roles, api.RoFree) },
	} {
		p := copied(good)
		spoil(&p)
		a, b, cold := pool.Cold(p, 8)
		c, free := pool.Choose(p)
		least, most := pool.Spread(p)
		if a != 0 || b != 0 || cold || c != 0 || free || least != 0 || most != 0 || pool.Count(p, api.RoMap) != 0 {
			t.Error(p, a, b, cold, c, free, least, most)
		}
	}
}

func TestP42Choose(t *testing.T) {
	const free, data, bad = api.RoFree, api.RoData, api.RoBad
	for _, c := range []struct {
		name  string
		p     api.Pool
		block int
		ok    bool
	}{
		{"all free", inOrder(free), 0, true},
		{"none free", inOrder(data), 0, false},
		{"all bad", inOrder(bad), 0, false},
		{"the first one is not free", inOrder(free, data), 1, true},
		{"one free", inOrder(bad, data, data, data, free), 3, true},
		{"the first one alone", inOrder(data, free), 0, true},
		{"the least", worn(inOrder(free), 3, 2, 1, 2, 1, 1, 2, 2, 2, 2, 2, 2, 2, 2, 2, 2), 2, true},
		{"the last", worn(inOrder(free), 9, 9, 9, 9, 9, 9, 9, 9, 9, 9, 9, 9, 9, 9, 9, 8), 15, true},
		{"equal ones", worn(inOrder(data, data, free, free, free), 0, 5, 5, 5), 1, true},
		{"others are worn less", worn(inOrder(bad, data, free, bad, free), 0, 6, 0, 5), 3, true},
		{"worn out", worn(inOrder(data, free, free), api.MaxWear, api.MaxWear), 0, true},
	} {
		if block, ok := pool.Choose(c.p); block != c.block || ok != c.ok {
			t.Errorf("%s: %d, %v, want %d, %v", c.name, block, ok, c.block, c.ok)
		}
	}
	last := inOrder(data)
	last.Roles[15] = free
	if block, ok := pool.Choose(last); block != 15 || !ok {
		t.Error("the last alone:", block, ok)
	}
	var s stream = 2
	for range 500 {
		p := s.pool()
		block, ok := pool.Choose(p)
		if ok != slices.Contains(p.Roles, free) || ok && p.Roles[block] != free || !ok && block != 0 {
			t.Fatal(p, block, ok)
		}
		for n, role := range p.Roles {
			if ok && role == free && (p.Wear[n] < p.Wear[block] || p.Wear[n] == p.Wear[block] && n < block) {
				t.Fatalf("%v: %d, not %d", p, block, n)
			}
		}
	}
}

// eachRole is a pool in which the block n has the role n + 1, and all those from 6 on are free.
func eachRole() api.Pool {
	p := inOrder(api.RoFree, allRoles...)
	for i := range p.Wear {
		p.Wear[i] = int64(10 + i)
	}
	return p
}

func TestP42Take(t *testing.T) {
	taken := []int{api.RoData, api.RoSeq, api.RoRand, api.RoMap}
	for _, role := range slices.Concat(allRoles, oddRoles) {
		for block := range 16 {
			p := eachRole()
			got, e := pool.Take(p, block, role)
			if !slices.Contains(taken, role) || p.Roles[block] != api.RoFree {
				refused(t, "Take", got, e, api.ErrRole)
				continue
			}
			want := eachRole()
			want.Roles[block] = role
			made(t, "Take", got, e, want)
		}
		// That there is no such block is told ahead of the role.
		for _, block := range []int{math.MinInt, -1, 16, 17, math.MaxInt} {
			got, e := pool.Take(eachRole(), block, role)
			refused(t, "Take of no block", got, e, api.ErrPlace)
		}
	}
}

func TestP42GiveErasedRetire(t *testing.T) {
	calls := map[string]struct {
		call    func(api.Pool, int) (api.Pool, api.Errno)
		not     []int
		becomes int // 0: it stays
		more    int64
	}{
		"Give":   {pool.Give, []int{api.RoFree, api.RoBad}, api.RoFree, 1},
		"Erased": {pool.Erased, []int{api.RoBad}, 0, 1},
		"Retire": {pool.Retire, []int{api.RoBad}, api.RoBad, 0},
	}
	for name, c := range calls {
		for _, wear := range []int64{0, 1, 77, api.MaxWear - 1, api.MaxWear} {
			for at, role := range slices.Concat(allRoles, allRoles, allRoles[:4]) {
				p := eachRole()
				p.Roles[at], p.Wear[at] = role, wear
				want := copied(p)
				got, e := c.call(p, at)
				if slices.Contains(c.not, role) {
					refused(t, name, got, e, api.ErrRole)
					continue
				}
				if c.becomes != 0 {
					want.Roles[at] = c.becomes
				}
				want.Wear[at] += c.more
				if want.Wear[at] > api.MaxWear {
					want.Wear[at] = api.MaxWear
				}
				made(t, name, got, e, want)
			}
		}
		for _, filling := range allRoles {
			for _, block := range []int{math.MinInt, -1, 16, 17, math.MaxInt} {
				got, e := c.call(inOrder(filling), block)
				refused(t, name+" of no block", got, e, api.ErrPlace)
			}
		}
	}
}

func TestP42LastOfMany(t *testing.T) {
	p := mustNew(t, 256)
	p, e := pool.Take(p, 255, api.RoMap)
	is(t, "Take", e, api.OK)
	p, e = pool.Give(p, 255)
	is(t, "Give", e, api.OK)
	p, e = pool.Erased(p, 255)
	is(t, "Erased", e, api.OK)
	p, e = pool.Retire(p, 255)
	is(t, "Retire", e, api.OK)
	if p.Roles[255] != api.RoBad || p.Wear[255] != 2 {
		t.Error(p.Roles[255], p.Wear[255])
	}
	q, e := pool.Take(p, 256, api.RoMap)
	refused(t, "Take", q, e, api.ErrPlace)
}

func TestP42WornOutStays(t *testing.T) {
	p := worn(inOrder(api.RoFree), api.MaxWear-1)
	for range 3 {
		p, _ = pool.Erased(p, 0)
		if p.Wear[0] != api.MaxWear {
			t.Fatal("Erased", p.Wear[0])
		}
		p, _ = pool.Take(p, 0, api.RoSeq)
		p, _ = pool.Give(p, 0)
		if p.Wear[0] != api.MaxWear || p.Roles[0] != api.RoFree {
			t.Fatal("Give", p.Wear[0], p.Roles[0])
		}
	}
}

func TestP43CountAndAll(t *testing.T) {
	p := inOrder(api.RoMap, api.RoData, api.RoFree, api.RoData, api.RoBad, api.RoSeq, api.RoData)
	want := map[int][]int{
		api.RoFree: {1}, api.RoData: {0, 2, 5}, api.RoSeq: {4}, api.RoRand: nil,
		api.RoMap: {6, 7, 8, 9, 10, 11, 12, 13, 14, 15}, api.RoBad: {3},
	}
	for _, role := range slices.Concat(allRoles, oddRoles) {
		tells(t, "All "+strconv.Itoa(role), pool.All(p, role), want[role]...)
		if n := pool.Count(p, role); n != len(want[role]) {
			t.Errorf("Count %d: %d", role, n)
		}
	}
	var s stream = 3
	for range 100 {
		p := s.pool()
		for _, role := range allRoles {
			var l []int
			for block, r := range p.Roles {
				if r == role {
					l = append(l, block)
				}
			}
			tells(t, "All", pool.All(p, role), l...)
			if n := pool.Count(p, role); n != len(l) {
				t.Fatal("Count", p, role, n)
			}
		}
	}
}

func TestP43AllStops(t *testing.T) {
	p := inOrder(api.RoMap, api.RoData, api.RoFree, api.RoData, api.RoData)
	blocks := pool.All(p, api.RoData)
	for stop := range 4 {
		var got []int
		for block := range blocks {
			if len(got) == stop {
				break
			}
			got = append(got, block)
		}
		if !slices.Equal(got, []int{0, 2, 3}[:stop]) {
			t.Errorf("stopped behind %d: %v", stop, got)
		}
	}
	calls := 0
	blocks(func(int) bool { calls++; return false })
	if calls != 1 {
		t.Errorf("went on %d times", calls)
	}
	tells(t, "once more", blocks, 0, 2, 3)
	tells(t, "and again", blocks, 0, 2, 3)
}

func TestP43Spread(t *testing.T) {
	const free, data, bad = api.RoFree, api.RoData, api.RoBad
	for _, c := range []struct {
		name        string
		p           api.Pool
		least, most int64
	}{
		{"new", inOrder(free), 0, 0},
		{"all bad", inOrder(bad), 0, 0},
		{"all bad and worn", worn(inOrder(bad), 5, 6, 7), 0, 0},
		{"one is worn", worn(inOrder(free), 0, 5), 0, 5},
		{"a bad one is worn most", worn(inOrder(free, bad), 9, 5), 0, 5},
		{"a bad one is worn least", worn(inOrder(bad, free, free), 3, 5), 3, 5},
		{"one good one", worn(inOrder(bad, bad, data), 1, 7, 9), 7, 7},
		{"each role counts", worn(inOrder(bad, api.RoMap, free, api.RoRand, data, api.RoSeq), 4, 5, 6, 7, 8), 4, 8},
		{"and the other way round", worn(inOrder(bad, api.RoSeq, data, api.RoRand, free, api.RoMap), 4, 5, 6, 7, 8), 4, 8},
		{"from the least to the greatest", worn(inOrder(data), 1, api.MaxWear), 0, api.MaxWear},
	} {
		if least, most := pool.Spread(c.p); least != c.least || most != c.most {
			t.Errorf("%s: %d, %d, want %d, %d", c.name, least, most, c.least, c.most)
		}
	}
	for _, role := range allRoles[:5] {
		p := worn(inOrder(bad, bad, bad, role), 1, 2, 30, 4)
		if least, most := pool.Spread(p); least != 30 || most != 30 {
			t.Errorf("role %d: %d, %d", role, least, most)
		}
	}
	all := worn(inOrder(data), slices.Repeat([]int64{api.MaxWear}, 16)...)
	if least, most := pool.Spread(all); least != api.MaxWear || most != api.MaxWear {
		t.Error("all worn out:", least, most)
	}
}

func TestP43Cold(t *testing.T) {
	const free, data, bad, seq, rand = api.RoFree, api.RoData, api.RoBad, api.RoSeq, api.RoRand
	for _, c := range []struct {
		name        string
		p           api.Pool
		gap         int64
		rests, worn int
		ok          bool
	}{
		{"new", inOrder(free), 0, 0, 0, false},
		{"no free one", inOrder(data), 0, 0, 0, false},
		{"no data", worn(inOrder(seq, free), 9), 0, 0, 0, false},
		{"neither", worn(inOrder(bad, rand), 9), 0, 0, 0, false},
		{"no free one but worn ones", worn(inOrder(bad, data, seq, rand), 0, 9, 9, 9), 0, 0, 0, false},
		{"no free one, block 0 is worn", worn(inOrder(bad, seq, data), 9, 0), 1, 0, 0, false},
		{"no data, block 0 rests", worn(inOrder(bad, seq, free), 0, 9), 1, 0, 0, false},
		{"just met", worn(inOrder(bad, data, free), 1, 4), 3, 0, 1, true},
		{"just missed", worn(inOrder(bad, data, free), 1, 4), 4, 0, 0, false},
		{"more than met", worn(inOrder(bad, data, free), 1, 4), 2, 0, 1, true},
		{"the free one ahead", worn(inOrder(bad, free, data), 4, 1), 3, 1, 0, true},
		{"the last ones", worn(inOrder(bad, bad, bad, seq, data, free), 0, 9, 2, 5, 6), 1, 3, 4, true},
		{"gap 0, one between", worn(inOrder(bad, data, free), 1, 2), 0, 0, 1, true},
		{"gap 0, none between", worn(inOrder(bad, data, free), 2, 2), 0, 0, 0, false},
		{"gap 1, one between", worn(inOrder(bad, data, free), 1, 2), 1, 0, 1, true},
		{"gap 1, none between", worn(inOrder(bad, data, free), 2, 2), 1, 0, 0, false},
		{"gap below 0, one between", worn(inOrder(bad, data, free), 1, 2), -1, 0, 1, true},
		{"gap below 0, none between", worn(inOrder(bad, data, free), 2, 2), -1, 0, 0, false},
		{"gap below 0, the data worn more", worn(inOrder(bad, data, free), 9, 2), -9, 0, 0, false},
		{"the least gap", worn(inOrder(bad, data, free), 1, 2), math.MinInt64, 0, 1, true},
		{"the least gap, none between", worn(inOrder(bad, data, free), 2, 2), math.MinInt64, 0, 0, false},
		{"the least gap, the data worn out", worn(inOrder(bad, data, free), api.MaxWear, 0), math.MinInt64, 0, 0, false},
		{"the greatest gap", worn(inOrder(bad, data, free), 0, api.MaxWear), math.MaxInt64, 0, 0, false},
		{"the greatest gap that is met", worn(inOrder(bad, data, free), 0, api.MaxWear), api.MaxWear, 0, 1, true},
		{"one more", worn(inOrder(bad, data, free), 0, api.MaxWear), api.MaxWear + 1, 0, 0, false},
		{"the data that rest most", worn(inOrder(bad, data, data, data, free), 5, 3, 4, 9), 6, 1, 3, true},
		{"the free one that is worn most", worn(inOrder(bad, free, free, free, data), 7, 9, 8, 1), 8, 3, 1, true},
		{"equal ones", worn(inOrder(bad, data, data, free, free), 2, 2, 5, 5), 3, 0, 2, true},
		{"equal ones behind others", worn(inOrder(bad, free, data, free, data, data, free), 4, 3, 5, 2, 2, 5), 3, 3, 2, true},
		{"others do not count", worn(inOrder(bad, seq, data, rand, free, api.RoMap), 0, 3, 9, 5, 9), 3, 0, 0, false},
	} {
		if rests, free, ok := pool.Cold(c.p, c.gap); rests != c.rests || free != c.worn || ok != c.ok {
			t.Errorf("%s: %d, %d, %v, want %d, %d, %v", c.name, rests, free, ok, c.rests, c.worn, c.ok)
		}
	}
}

// The words of the promise, tried on each pair of blocks.
func TestP43ColdOfAny(t *testing.T) {
	var s stream = 4
	found := 0
	for range 500 {
		p := s.pool()
		gap := int64(s.below(5)) - 1
		rests, used := -1, -1
		for n, role := range p.Roles {
			if role == api.RoData && (rests < 0 || p.Wear[n] < p.Wear[rests]) {
				rests = n
			}
			if role == api.RoFree && (used < 0 || p.Wear[n] > p.Wear[used]) {
				used = n
			}
		}
		want := rests >= 0 && used >= 0 && p.Wear[used]-p.Wear[rests] >= gap && p.Wear[used] > p.Wear[rests]
		if !want {
			rests, used = 0, 0
		} else {
			found++
		}
		if a, b, ok := pool.Cold(p, gap); a != rests || b != used || ok != want {
			t.Fatal(p, gap, a, b, ok)
		}
	}
	if found < 50 || found > 450 {
		t.Errorf("%d were found", found)
	}
}

func TestP43Wears(t *testing.T) {
	p := worn(inOrder(api.RoFree, allRoles...), 5, 5, 5, 5, 5, 5, 0, api.MaxWear, api.MaxWear, api.MaxWear-1)
	l := []int64{4, 5, 6, 0, api.MaxWear, 7, 1, 0, api.MaxWear, api.MaxWear, 0, 1, 2, 3, 4, 5}
	want := worn(copied(p), 5, 5, 6, 5, api.MaxWear, 7, 1, api.MaxWear, api.MaxWear, api.MaxWear, 0, 1, 2, 3, 4, 5)
	got, e := pool.Wears(p, l...)
	made(t, "Wears", got, e, want)
	got, e = pool.Wears(got, l...)
	made(t, "the same again", got, e, want)
	got, e = pool.Wears(p, make([]int64, 16)...)
	made(t, "nothing to raise", got, e, p)
	many := mustNew(t, 256, 9)
	l = make([]int64, 256)
	l[9], l[255] = 8, 7
	got, e = pool.Wears(many, l...)
	many.Wear[9], many.Wear[255] = 8, 7
	made(t, "of the most blocks", got, e, many)
}

func TestP43WearsRefuses(t *testing.T) {
	p := inOrder(api.RoFree)
	for _, n := range []int{0, 1, 15, 17, 32, 256} {
		got, e := pool.Wears(p, make([]int64, n)...)
		refused(t, strconv.Itoa(n)+" wears", got, e, api.ErrArg)
	}
	got, e := pool.Wears(p)
	refused(t, "none", got, e, api.ErrArg)
	got, e = pool.Wears(p, []int64(nil)...)
	refused(t, "nil", got, e, api.ErrArg)
	for _, at := range []int{0, 8, 15} {
		for _, wear := range []int64{math.MinInt64, -1, api.MaxWear + 1, math.MaxInt64} {
			for _, role := range allRoles {
				l := make([]int64, 16)
				l[at] = wear
				got, e := pool.Wears(inOrder(role), l...)
				refused(t, "a wear that may not be", got, e, api.ErrArg)
			}
		}
	}
}

func TestP44Capacity(t *testing.T) {
	for _, c := range []struct {
		blocks, pages      int
		bad, logs, reserve int
		want               int
		e                  api.Errno
	}{
		{16, 4, 1, 2, 2, 6, api.OK},
		{16, 4, 0, 1, 0, 10, api.OK},
		{16, 32, 0, 8, 0, 3, api.OK},
		{256, 32, 0, 1, 0, 250, api.OK},
		{256, 16, 10, 8, 20, 213, api.OK},
		{64, 4, 0, 1, 0, 58, api.OK},
		// Just 1, just 0, and fewer.
		{16, 4, 9, 1, 0, 1, api.OK},
		{16, 4, 10, 1, 0, 0, api.ErrSmall},
		{16, 4, 0, 1, 9, 1, api.OK},
		{16, 4, 0, 1, 10, 0, api.ErrSmall},
		{16, 4, 2, 8, 0, 1, api.OK},
		{16, 4, 3, 8, 0, 0, api.ErrSmall},
		{16, 4, 0, 8, 2, 1, api.OK},
		{16, 4, 0, 8, 3, 0, api.ErrSmall},
		{16, 4, 2, 4, 4, 1, api.OK},
		{16, 4, 2, 4, 6, 0, api.ErrSmall},
		{16, 4, 16, 1, 0, 0, api.ErrSmall},
		{16, 4, 0, 1, 16, 0, api.ErrSmall},
		{16, 4, 16, 8, 16, 0, api.ErrSmall},
		{256, 32, 256, 8, 256, 0, api.ErrSmall},
		{256, 32, 249, 1, 0, 1, api.OK},
		{256, 32, 250, 1, 0, 0, api.ErrSmall},
		// Beyond the edges of each argument.
		{16, 4, -1, 1, 0, 0, api.ErrArg},
		{16, 4, 17, 1, 0, 0, api.ErrArg},
		{16, 4, math.MinInt, 1, 0, 0, api.ErrArg},
		{16, 4, math.MaxInt, 1, 0, 0, api.ErrArg},
		{16, 4, 0, 0, 0, 0, api.ErrArg},
		{16, 4, 0, -1, 0, 0, api.ErrArg},
		{256, 32, 0, 9, 0, 0, api.ErrArg},
		{16, 4, 0, math.MinInt, 0, 0, api.ErrArg},
		{16, 4, 0, math.MaxInt, 0, 0, api.ErrArg},
		{16, 4, 0, 1, -1, 0, api.ErrArg},
		{16, 4, 0, 1, 17, 0, api.ErrArg},
		{16, 4, 0, 1, math.MinInt, 0, api.ErrArg},
		{16, 4, 0, 1, math.MaxInt, 0, api.ErrArg},
		{256, 32, 257, 1, 0, 0, api.ErrArg},
		{256, 32, 0, 1, 257, 0, api.ErrArg},
		// Several are wrong.
		{15, 4, -1, 0, -1, 0, api.ErrGeometry},
		{16, 3, 16, 8, 16, 0, api.ErrGeometry},
		{16, 4, 16, 9, 16, 0, api.ErrArg},
		{16, 4, 17, 8, 16, 0, api.ErrArg},
		{16, 4, math.MinInt, math.MaxInt, math.MinInt, 0, api.ErrArg},
		{math.MinInt, math.MaxInt, math.MinInt, math.MinInt, math.MinInt, 0, api.ErrGeometry},
		{math.MaxInt, math.MaxInt, math.MaxInt, math.MaxInt, math.MaxInt, 0, api.ErrGeometry},
	} {
		g := api.Geometry{Blocks: c.blocks, Pages: c.pages}
		if n, e := pool.Capacity(g, c.bad, c.logs, c.reserve); n != c.want || e != c.e {
			t.Errorf("Capacity(%v, %d, %d, %d): %d, %v, want %d, %v", g, c.bad, c.logs, c.reserve, n, e, c.want, c.e)
		}
	}
}

// A geometry is refused just where nand.New refuses it.
func TestP44CapacityGeometry(t *testing.T) {
	odd := []int{math.MinInt, -1, 0, math.MaxInt / 16, math.MaxInt/16 + 1, math.MaxInt}
	for _, blocks := range append(odd, 15, 16, 17, 63, 64, 65, 80, 81, 255, 256, 257) {
		for _, pages := range append(odd, 1, 3, 4, 5, 15, 16, 17, 31, 32, 33) {
			g := api.Geometry{Blocks: blocks, Pages: pages}
			_, want := nand.New(g, nil)
			n, e := pool.Capacity(g, 0, 1, 0)
			is(t, "Capacity", e, want)
			if want != api.OK && n != 0 {
				t.Errorf("%v: %d beside %v", g, n, e)
			}
			if want == api.OK && n != blocks-6 {
				t.Errorf("%v: %d", g, n)
			}
		}
	}
}

func TestP44Same(t *testing.T) {
	pools := []api.Pool{
		inOrder(api.RoFree),
		eachRole(),
		worn(inOrder(api.RoFree), 1),
		{},
		{Roles: []int{}, Wear: nil},
		{Roles: nil, Wear: []int64{}},
		{Roles: []int{-1}, Wear: nil},
		{Roles: nil, Wear: []int64{-1}},
		{Roles: []int{-1}, Wear: []int64{-1}},
		{Roles: []int{-1, 0}, Wear: []int64{-1}},
		{Roles: []int{-1}, Wear: []int64{-1, 0}},
		{Roles: []int{0}, Wear: []int64{0}},
		{Roles: []int{0, 0}, Wear: []int64{0}},
		{Roles: []int{math.MaxInt}, Wear: []int64{math.MinInt64}},
	}
	for i, a := range pools {
		for j, b := range pools {
			nothing := 3 <= i && i <= 5 && 3 <= j && j <= 5
			if got := pool.Same(a, copied(b)); got != (i == j || nothing) {
				t.Errorf("Same(%v, %v): %v", a, b, got)
			}
		}
	}
	for block := range 16 {
		p, q := eachRole(), eachRole()
		p.Roles[block]++
		q.Wear[block]++
		if pool.Same(p, eachRole()) || pool.Same(eachRole(), q) || pool.Same(p, q) {
			t.Errorf("block %d does not count", block)
		}
	}
}

func TestP44Clone(t *testing.T) {
	pools := badPools()
	pools["new"] = inOrder(api.RoFree)
	pools["of each role"] = eachRole()
	for name, p := range pools {
		q := pool.Clone(p)
		if !equal(p, q) || !pool.Same(p, q) || pool.Check(p) != pool.Check(q) {
			t.Errorf("%s: became %v", name, q)
		}
	}
}

func TestExample1(t *testing.T) {
	p := mustNew(t, 16, 3)
	if block, ok := pool.Choose(p); block != 0 || !ok {
		t.Error("Choose", block, ok)
	}
	p, e := pool.Take(p, 0, api.RoData)
	is(t, "Take", e, api.OK)
	if block, ok := pool.Choose(p); block != 1 || !ok {
		t.Error("Choose", block, ok)
	}
	if n, e := pool.Capacity(api.Geometry{Blocks: 16, Pages: 4}, 1, 2, 2); n != 6 || e != api.OK {
		t.Error("Capacity", n, e)
	}
}

package pool_test

import (
	"slices"
	"testing"

	"slipway/api"
	"slipway/pool"
)

// step does a call that s chooses, right or wrong, and answers what it made; was is what it was done on.
func step(s *stream, was api.Pool) (string, api.Pool, api.Errno) {
	blocks := len(was.Roles)
	block := s.below(blocks+2) - 1
	switch s.below(6) {
	case 0:
		p, e := pool.Take(was, block, s.below(8))
		return "Take", p, e
	case 1:
		block, _ = pool.Choose(was)
		p, e := pool.Take(was, block, s.below(8))
		return "Take of what was chosen", p, e
	case 2:
		p, e := pool.Give(was, block)
		return "Give", p, e
	case 3:
		p, e := pool.Erased(was, block)
		return "Erased", p, e
	case 4:
		// Few, so that not all blocks are soon out of use.
		if s.below(10) != 0 {
			return "Clone", pool.Clone(was), api.OK
		}
		p, e := pool.Retire(was, block)
		return "Retire", p, e
	}
	l := make([]int64, blocks-s.below(5)/4)
	for i := range l {
		l[i] = was.Wear[i] + int64(s.below(3)) - 1
	}
	if s.below(2) == 0 {
		l[s.below(len(l))] = int64(s.below(api.MaxWear + 2))
	}
	p, e := pool.Wears(was, l...)
	return "Wears", p, e
}

// walk hands all pools that a row of calls makes to look, each with the one that it was made of.
func walk(seed stream, look func(name string, was, now api.Pool)) {
	s := seed
	for range 20 {
		p, e := pool.New(api.MinBlocks+s.below(30), s.below(16))
		if e != api.OK {
			continue
		}
		for range 400 {
			name, q, e := step(&s, p)
			if e != api.OK {
				continue
			}
			look(name, p, q)
			p = q
		}
	}
}

func TestP45ItStaysRight(t *testing.T) {
	seen := map[string]int{}
	walk(1, func(name string, was, now api.Pool) {
		seen[name]++
		if e := pool.Check(now); e != api.OK {
			t.Fatalf("%s made %v of %v", name, now, was)
		}
		if len(now.Roles) != len(was.Roles) || len(now.Wear) != len(was.Wear) {
			t.Fatalf("%s: %d blocks became %d", name, len(was.Roles), len(now.Roles))
		}
		for block, role := range was.Roles {
			if role == api.RoBad && now.Roles[block] != api.RoBad {
				t.Fatalf("%s: block %d is good again", name, block)
			}
			if now.Wear[block] < was.Wear[block] {
				t.Fatalf("%s: block %d was erased %d times, and now %d", name, block, was.Wear[block], now.Wear[block])
			}
		}
	})
	for _, name := range []string{"Take", "Take of what was chosen", "Give", "Erased", "Retire", "Wears", "Clone"} {
		if seen[name] < 20 {
			t.Errorf("%s: done but %d times", name, seen[name])
		}
	}
}

// Whatever is done to a bad block, it stays bad.
func TestP45BadStaysBad(t *testing.T) {
	for _, p := range []api.Pool{mustNew(t, 16, 2), inOrder(api.RoData, 2, 2, api.RoBad), inOrder(api.RoBad)} {
		for _, role := range append(slices.Clone(allRoles), oddRoles...) {
			q, e := pool.Take(p, 2, role)
			refused(t, "Take", q, e, api.ErrRole)
		}
		q, e := pool.Give(p, 2)
		refused(t, "Give", q, e, api.ErrRole)
		q, e = pool.Erased(p, 2)
		refused(t, "Erased", q, e, api.ErrRole)
		q, e = pool.Retire(p, 2)
		refused(t, "Retire", q, e, api.ErrRole)
		q, e = pool.Wears(p, slices.Repeat([]int64{9}, 16)...)
		if e != api.OK || q.Roles[2] != api.RoBad || q.Wear[2] != 9 {
			t.Error("Wears", q, e)
		}
		if block, ok := pool.Choose(p); ok && block == 2 {
			t.Error("Choose")
		}
	}
}

func TestP46Fair(t *testing.T) {
	var s stream = 2
	for _, bad := range [][]int{nil, {0}, {15}, {3, 9, 4}, {0, 1, 2, 3, 4, 5, 6, 7, 8, 9, 10, 11, 12, 13, 14}} {
		for _, blocks := range []int{16, 37, 256} {
			p := mustNew(t, blocks, bad...)
			good := blocks - len(bad)
			rounds := 3*good + s.below(good)
			for n := range rounds {
				block, ok := pool.Choose(p)
				if !ok {
					t.Fatal("nothing to choose")
				}
				role := api.RoData + s.below(4)
				taken, e := pool.Take(p, block, role)
				is(t, "Take", e, api.OK)
				p, e = pool.Give(taken, block)
				is(t, "Give", e, api.OK)
				least, most := pool.Spread(p)
				if most-least > 1 || least != int64((n+1)/good) {
					t.Fatalf("%d blocks, behind %d rounds: from %d to %d", blocks, n+1, least, most)
				}
			}
			for _, block := range bad {
				if p.Wear[block] != 0 {
					t.Errorf("block %d is bad, and was erased", block)
				}
			}
		}
	}
}

func TestP47EachInOneRole(t *testing.T) {
	check := func(name string, p api.Pool) {
		t.Helper()
		together := 0
		told := make([]int, len(p.Roles))
		for _, role := range allRoles {
			together += pool.Count(p, role)
			for block := range pool.All(p, role) {
				told[block]++
			}
		}
		if together != len(p.Roles) {
			t.Fatalf("%s: %d of %d blocks", name, together, len(p.Roles))
		}
		for block, n := range told {
			if n != 1 {
				t.Fatalf("%s: block %d is told %d times", name, block, n)
			}
		}
	}
	for _, blocks := range []int{16, 100, 256} {
		check("New", mustNew(t, blocks, 3, 5))
	}
	walk(3, func(name string, was, now api.Pool) { check(name, now) })
	var s stream = 4
	for range 100 {
		check("any", s.pool())
	}
}

package ftl_test

import (
	"fmt"
	"slices"
	"testing"

	"slipway/api"
	"slipway/ftl"
	"slipway/mapjnl"
	"slipway/nand"
	"slipway/page"
	"slipway/plan"
	"slipway/pool"
)

// none is no block.
const none = -1

// recorded is what the records on a chip say.
func recorded(c *nand.Chip) api.MapState {
	l, _ := sheets(c)
	s, _, _ := mapjnl.Replay(c.Geometry().Blocks, l...)
	return s
}

// sheetOf is the bytes of a part of a checkpoint that knows of some bad blocks, and of nothing else.
func sheetOf(t *testing.T, blocks, part int, gen int64, bad ...int) []byte {
	t.Helper()
	s, _ := mapjnl.New(blocks)
	for _, block := range bad {
		s.Bad[block] = true
	}
	l, e := mapjnl.Checkpoint(s, gen)
	is(t, "Checkpoint", e, api.OK)
	b, e := mapjnl.Bytes(l[part])
	is(t, "Bytes", e, api.OK)
	return b
}

// The first operation of a mount erases a block: the least one that is neither needed nor has the checkpoint that is kept.
func TestP84TheBookThatIsKept(t *testing.T) {
	wide := api.Geometry{Blocks: 130, Pages: 9}
	type leaf struct {
		block, part int
		gen         int64
		bad         []int
	}
	for name, x := range map[string]struct {
		g      api.Geometry
		leaves []leaf
		erased int
	}{
		"one":                      {small.g, []leaf{{block: 0, gen: 5}}, 1},
		"the greater generation":   {small.g, []leaf{{block: 0, gen: 9}, {block: 1, gen: 5}}, 1},
		"the greater one behind":   {small.g, []leaf{{block: 0, gen: 5}, {block: 1, gen: 9}}, 0},
		"not a bad block's":        {small.g, []leaf{{block: 0, gen: 5}, {block: 1, gen: 9, bad: []int{1}}}, 2},
		"the last of the greatest": {small.g, []leaf{{block: 0, gen: api.MaxGen}, {block: 1, gen: api.MaxGen}}, 0},
		"twice in a block":         {small.g, []leaf{{block: 0, gen: 3}, {block: 1, gen: 4}, {block: 0, gen: 5}}, 1},
		"whole":                    {wide, []leaf{{0, 0, 5, nil}, {0, 1, 5, nil}, {0, 2, 5, nil}, {1, 0, 9, nil}, {1, 2, 9, nil}}, 1},
		"whole, in any order":      {wide, []leaf{{0, 2, 5, nil}, {0, 0, 5, nil}, {0, 1, 5, nil}, {1, 0, 9, nil}}, 1},
		"of one generation":        {wide, []leaf{{0, 0, 5, nil}, {0, 1, 5, nil}, {0, 2, 5, nil}, {1, 0, 9, nil}, {1, 1, 8, nil}, {1, 2, 9, nil}}, 1},
		"in one block":             {wide, []leaf{{0, 0, 5, nil}, {0, 1, 5, nil}, {0, 2, 5, nil}, {1, 0, 9, nil}, {1, 1, 9, nil}, {2, 2, 9, nil}}, 1},
		"none that is whole":       {wide, []leaf{{0, 0, 5, nil}, {0, 1, 5, nil}, {1, 0, 9, nil}}, 0},
	} {
		c := chip(t, x.g, nil, api.Event{At: int64(len(x.leaves) + 1), Kind: api.EvCut})
		next := map[int]int{}
		for i, l := range x.leaves {
			n := int64(i + 1)
			lay(t, c, api.Place{Phys: l.block, Page: next[l.block]}, api.Header{Kind: api.PgAnchor, Seq: n, Stamp: n}, sheetOf(t, x.g.Blocks, l.part, l.gen, l.bad...))
			next[l.block]++
		}
		_, e := ftl.Mount(c, 2, 2)
		is(t, name, e, api.ErrPower)
		for block := range x.g.Blocks {
			l, _ := c.Look(block)
			if (l.Wear > 0) != (block == x.erased) {
				t.Errorf("%s: block %d was erased %d times", name, block, l.Wear)
			}
		}
	}
	// Records alone are no checkpoint.
	c := chip(t, small.g, nil, cutAt(3))
	lay(t, c, api.Place{Phys: 0}, api.Header{Kind: api.PgAnchor, Seq: 1, Stamp: 1}, sheetOf(t, 16, 0, 0))
	lay(t, c, api.Place{Phys: 1}, api.Header{Kind: api.PgAnchor, Seq: 2, Stamp: 2}, records(t, api.MapRecord{Kind: api.MrWear, Block: 4, Value: 1}))
	_, e := ftl.Mount(c, 2, 2)
	is(t, "Mount", e, api.ErrPower)
	l, _ := c.Look(1)
	is(t, "the block with records was erased", l.Wear, 1)
}

// What counts as a record: whatever its number, but in no block that the chip calls bad, and no sector's bytes.
func TestP81WhatIsRead(t *testing.T) {
	r := rigged(t, small, nil).format()
	b := records(t, api.MapRecord{Kind: api.MrBad, Block: 6}, api.MapRecord{Kind: api.MrSeq, Value: api.MaxSeq})
	for sector := range 28 {
		is(t, "Write", r.f.Write(sector, b), api.OK)
	}
	f, e := ftl.Mount(r.c, 2, 2)
	is(t, "Mount", e, api.OK)
	is(t, "Only", f.Only(), false)
	is(t, "bad blocks", pool.Count(f.Pool(), api.RoBad), 0)

	// The chip calls a block bad, and all in it counts for nothing.
	c := chip(t, small.g, nil, api.Event{At: 3, Kind: api.EvFail})
	lay(t, c, api.Place{Phys: 8}, api.Header{Kind: api.PgAnchor, Seq: 1, Stamp: 1}, b)
	lay(t, c, api.Place{Phys: 8, Page: 1}, api.Header{Kind: api.PgLog, Page: 3, Seq: api.MaxSeq, Stamp: api.MaxSeq}, content(3, 1))
	is(t, "Erase", c.Erase(8), api.ErrFail)
	f, e = ftl.Mount(c, 2, 2)
	is(t, "Mount", e, api.OK)
	is(t, "Only", f.Only(), false)
	is(t, "bad blocks", fmt.Sprint(slices.Collect(pool.All(f.Pool(), api.RoBad))), "[8]")
	got, e := f.Read(3)
	is(t, "Read", e, api.OK)
	is(t, "Read", slices.Equal(got, content(3, 0)), true)

	// Nor do sectors in a block that records call bad, also in one that has the records; the records do.
	c = chip(t, small.g, nil)
	lay(t, c, api.Place{Phys: 8}, api.Header{Kind: api.PgAnchor, Page: 7, Seq: 1, Stamp: 1}, records(t, api.MapRecord{Kind: api.MrBad, Block: 8}, api.MapRecord{Kind: api.MrBad, Block: 6}))
	lay(t, c, api.Place{Phys: 8, Page: 1}, api.Header{Kind: api.PgLog, Page: 3, Seq: 2, Stamp: 2}, content(3, 1))
	lay(t, c, api.Place{Phys: 6, Page: 1}, api.Header{Kind: api.PgLog, Page: 4, Seq: api.MaxSeq, Stamp: api.MaxSeq}, content(4, 1))
	f, e = ftl.Mount(c, 2, 2)
	is(t, "Mount", e, api.OK)
	is(t, "Only", f.Only(), false)
	is(t, "bad blocks", fmt.Sprint(slices.Collect(pool.All(f.Pool(), api.RoBad))), "[6 8]")
	for _, sector := range []int{3, 4} {
		got, e := f.Read(sector)
		is(t, "Read", e, api.OK)
		is(t, "Read", slices.Equal(got, content(sector, 0)), true)
	}
}

// What a mount does where there is nothing to fold: a checkpoint in an erased block, and the old one goes.
func TestP81WhatAMountDoes(t *testing.T) {
	r := rigged(t, small, nil).format()
	for sector := range 28 {
		r.write(sector)
	}
	r.mount()
	x := r.f.Table()
	for range 5 {
		ops := r.c.Ops()
		r.mount().tidy()
		is(t, "operations", r.c.Ops()-ops, 3)
		is(t, "Table", plan.Same(r.f.Table(), x), true)
	}
	// Each failure in it puts one block out of use, and is on record behind it, in so few pages as it takes.
	for at := int64(1); at <= 3; at++ {
		for _, mask := range masks() {
			c := rigged(t, small, nil, api.Event{At: r.c.Ops() + at, Kind: api.EvFail, Mask: mask})
			c.format()
			for sector := range 28 {
				c.write(sector)
			}
			for range 7 {
				c.mount()
			}
			is(t, "operations so far", c.c.Ops() >= r.c.Ops(), true)
			is(t, "bad blocks", pool.Count(c.f.Pool(), api.RoBad), 1)
			is(t, "on record", slices.Equal(recorded(c.c).Bad, c.f.State().Bad), true)
			l, _ := sheets(c.c)
			l = slices.DeleteFunc(l, func(m api.MapPage) bool { return m.Kind == api.MpPart })
			// What is erased ahead of the checkpoint stands in that.
			is(t, "pages of records", len(l), int(at/3))
			c.all()
		}
	}
}

// A merge that came to its end ahead of a cut is not done again.
func TestP84AMergeThatIsDone(t *testing.T) {
	first, last := span(t, cutShape, cutBad)
	done := 0
	for at := first; at <= last; at++ {
		r := rigged(t, cutShape, cutBad, api.Event{At: at, Kind: api.EvCut}).format()
		turn := 0
		for ; turn < cutTurns && r.write(mixed(turn, len(r.may), 4)) == api.OK; turn++ {
		}
		if r.c.On() {
			break
		}
		// What the mount finds: a data block that the table had taken over, while its old one could not be erased.
		x := r.f.Table()
		r.c.Restart()
		for block, phys := range x.Data {
			if phys < 0 || !alone(r.c, x, block) {
				continue
			}
			done++
			f, e := ftl.Mount(r.c.Clone(), r.logs, r.reserve)
			is(t, "Mount", e, api.OK)
			is(t, "Data", f.Table().Data[block], phys)
		}
	}
	if done < 50 {
		t.Errorf("but %d", done)
	}
}

// alone tells whether the table says that all of a logical block stands in its data block, and copies as new as that stand elsewhere.
func alone(c *nand.Chip, x api.Table, block int) bool {
	seqs := map[int]int64{}
	for number := range x.Pages {
		logical := block*x.Pages + number
		place, is := plan.Where(x, logical)
		if is && place.Phys != x.Data[block] {
			return false
		}
		p, _ := c.Read(place.Phys, place.Page)
		if h, _, e := page.Decode(p); is && e == api.OK {
			seqs[logical] = h.Seq
		}
	}
	twice := false
	for _, f := range whole(c) {
		seq, is := seqs[f.H.Page]
		if f.H.Kind == api.PgAnchor || !is || f.At.Phys == x.Data[block] {
			continue
		}
		if f.H.Seq > seq {
			return false
		}
		twice = twice || f.H.Seq == seq
	}
	return twice
}

// A block that is put out of use is on record with the next operation, if the book has room.
func TestP87AtOnce(t *testing.T) {
	t.Parallel()
	sh := shape{g: api.Geometry{Blocks: 16, Pages: 8}, logs: 2, reserve: 3}
	first, last := span(t, sh, nil)
	erases, programs := 0, 0
	for at := first; at <= last; at++ {
		fail := api.Event{At: at, Kind: api.EvFail}
		r := rigged(t, sh, nil, fail).format()
		block := none
		turn := 0
		for ; turn < cutTurns && r.c.Ops() < at; turn++ {
			was := r.f.Pool()
			r.write(mixed(turn, len(r.may), 8))
			for b, role := range r.f.Pool().Roles {
				if role == api.RoBad && was.Roles[b] == api.RoFree {
					block = b
				}
			}
		}
		if block == none {
			continue
		}
		again := rigged(t, sh, nil, fail, api.Event{At: at + 2, Kind: api.EvCut, Mask: []byte{0xff}}).format()
		for turn := range turn {
			if again.write(mixed(turn, len(r.may), 8)) != api.OK {
				break
			}
		}
		if !recorded(again.c).Bad[block] {
			continue
		}
		if l, _ := again.c.Look(block); l.Bad {
			erases++
		} else {
			programs++
		}
	}
	if erases < 8 || programs < 8 {
		t.Errorf("%d of erases that failed were on record at once, %d of programs", erases, programs)
	}
}

// Each operation that fails comes to put one block out of use, which is not erased any more, and taken for nothing.
func TestP85EachPutsOneOut(t *testing.T) {
	t.Parallel()
	sh := shape{g: api.Geometry{Blocks: 16, Pages: 4}, logs: 2, reserve: 1}
	first, last := span(t, sh, nil)
	seen := map[int]int{}
	for at := first; at < last-60; at++ {
		events := []api.Event{{At: at, Kind: api.EvFail, Mask: []byte{0x40}}}
		r := rigged(t, sh, nil, events...).format()
		var wear int64
		var next int
		block := none
		for turn := range cutTurns + 60 {
			is(t, "Write", r.write(mixed(turn, len(r.may), 4)), api.OK)
			if !slices.Equal(recorded(r.c).Bad, r.f.State().Bad) {
				t.Fatal("a block that is out of use is not on record")
			}
			for b := range pool.All(r.f.Pool(), api.RoBad) {
				l, _ := r.c.Look(b)
				if block == none {
					block, wear, next = b, l.Wear, l.Next
					if seen[0]++; l.Bad {
						seen[1]++
					}
				}
				if b != block || l.Wear != wear || l.Next != next || next == 0 {
					t.Fatalf("%d: block %d is out of use: %v", at, b, l)
				}
			}
		}
		if block == none {
			t.Fatalf("the operation %d put no block out of use", at)
		}
		r.all()
	}
	if seen[1] < 20 || seen[0]-seen[1] < 100 {
		t.Errorf("%d, of which the chip calls %d bad", seen[0], seen[1])
	}
}

// What fails while data that rests is moved into a worn block is seen by no write.
func TestP85AWornBlockFails(t *testing.T) {
	t.Parallel()
	sh := shape{g: api.Geometry{Blocks: 16, Pages: 4}, logs: 2, reserve: 4}
	// row does so many hot writes, with a mount in between, so that worn blocks are free that were not erased since.
	row := func(r *rig, turns int, look func(turn int, was api.Table, ops int64)) {
		s := stream(851)
		r.format()
		for sector := range r.may {
			is(t, "Write", r.write(sector), api.OK)
		}
		for turn := range turns {
			was, ops := r.f.Table(), r.c.Ops()
			if turn%97 == 50 {
				r.mount()
			}
			is(t, "Write", r.write(r.hot(&s)), api.OK)
			look(turn, was, ops)
		}
		r.all()
		r.mount().all()
	}
	type try struct {
		turn int
		at   int64
	}
	var tries []try
	base := rigged(t, sh, nil)
	row(base, 1300, func(turn int, was api.Table, ops int64) {
		if !slices.Equal(was.Data[2:], base.f.Table().Data[2:]) {
			for at := ops + 1; at <= base.c.Ops(); at++ {
				tries = append(tries, try{turn, at})
			}
		}
	})
	if len(tries) < 70 {
		t.Fatalf("but %d", len(tries))
	}
	for i, x := range tries {
		events := []api.Event{{At: x.at, Kind: api.EvFail, Mask: masks()[i%6]}}
		if i%3 == 0 {
			events = append(events, api.Event{At: x.at + 1 + int64(i%5), Kind: api.EvFail, Mask: masks()[i%5]})
		}
		r := rigged(t, sh, nil, events...)
		row(r, x.turn+20, func(int, api.Table, int64) { r.atMost(0, events) })
	}
}

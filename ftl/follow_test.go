package ftl_test

import (
	"bytes"
	"fmt"
	"slices"
	"testing"

	"slipway/api"
	"slipway/ftl"
	"slipway/mapjnl"
	"slipway/nand"
	"slipway/page"
	"slipway/plan"
	"slipway/pool"
)

// shapes are disks at the least and at more pages a block, with one log and with several, with one and with more parts of a checkpoint.
var shapes = []shape{
	small,
	{g: api.Geometry{Blocks: 16, Pages: 4}, logs: 1, reserve: 0},
	{g: api.Geometry{Blocks: 20, Pages: 4}, logs: 8, reserve: 3},
	{g: api.Geometry{Blocks: 16, Pages: 8}, logs: 3, reserve: 1},
	{g: api.Geometry{Blocks: 66, Pages: 5}, logs: 2, reserve: 40},
	{g: api.Geometry{Blocks: 17, Pages: 32}, logs: 2, reserve: 0},
}

// rows are orders of writes: which sector of so many comes at a turn.
var rows = map[string]func(s *stream, size, pages, turn int) int{
	"rising":    func(_ *stream, size, _, turn int) int { return turn % size },
	"falling":   func(_ *stream, size, _, turn int) int { return size - 1 - turn%size },
	"one":       func(_ *stream, size, pages, turn int) int { return min(size-1, pages+1) },
	"a first":   func(_ *stream, size, pages, turn int) int { return turn / 3 % 2 * (size - pages) },
	"at random": func(s *stream, size, _, turn int) int { return s.below(size) },
	"beginnings": func(s *stream, size, pages, turn int) int {
		return turn/pages*pages%size/pages*pages + turn%pages%(1+turn/7%pages)
	},
	"rising, and some": func(s *stream, size, _, turn int) int {
		if s.below(4) == 0 {
			return s.below(size)
		}
		return turn / 2 % size
	},
}

// tidy is what must be true behind a mount: no logs, and nothing whole outside of what is used.
func (r *rig) tidy() {
	r.t.Helper()
	if x := r.f.Table(); x.Seq.Phys != -1 || len(x.Logs) != 0 {
		r.t.Fatalf("logs behind a mount: %v", x)
	}
	if !r.f.Only() {
		r.erased()
	}
}

// erased is what must be true behind a write or a mount that came to its end: blocks that are not used any more were erased at once.
func (r *rig) erased() {
	r.t.Helper()
	p := r.f.Pool()
	for _, f := range whole(r.c) {
		if p.Roles[f.At.Phys] == api.RoFree {
			r.t.Fatalf("%v stands in a free block", f)
		}
	}
}

func TestP83ADisk(t *testing.T) {
	t.Parallel()
	var steps [10]int
	for _, sh := range shapes {
		for name, row := range rows {
			s := stream(83)
			r := rigged(t, sh, nil).format()
			for turn := range 12 * len(r.may) {
				if e := r.write(row(&s, len(r.may), r.g.Pages, turn)); e != api.OK {
					t.Fatal(name, sh, turn, e)
				}
				if turn%37 == 0 {
					r.all()
				}
				if turn%(1+r.g.Pages/4) == 0 {
					r.erased()
				}
				if s.below(60) == 0 {
					r.mount().tidy()
				}
			}
			r.all()
			r.mount().all()
			r.mount().all()
			for kind, n := range r.steps {
				steps[kind] += n
			}
		}
	}
	for kind := api.StSeq; kind <= api.StDrop; kind++ {
		if steps[kind] < 20 {
			t.Errorf("the step %d came up but %d times", kind, steps[kind])
		}
	}
}

// Another number of logs, or another reserve, finds what the disk has room for.
func TestP83MountedOtherwise(t *testing.T) {
	r := rigged(t, small, nil).format()
	s := stream(84)
	all := slices.Clone(r.may)
	for range 60 {
		for range 20 {
			sector := s.below(len(r.may))
			is(t, "Write", r.write(sector), api.OK)
			all[sector] = r.may[sector]
		}
		r.logs, r.reserve = 1+s.below(3), 2+s.below(2)
		n, _ := ftl.Sectors(r.g, r.logs, r.reserve)
		for len(all) < n {
			all = append(all, []int{0})
		}
		// What a smaller disk has no room for may be lost.
		r.may = make([][]int, n)
		for sector := range r.may {
			r.may[sector] = append(slices.Clone(all[sector]), 0)
		}
		for sector := n; sector < len(all); sector++ {
			all[sector] = append(all[sector], 0)
		}
		r.mount().all()
		copy(all, r.may)
	}
}

// hot is a sector of the first two logical blocks: all others rest.
func (r *rig) hot(s *stream) int { return s.below(2 * r.g.Pages) }

// Data that rests changes places with blocks that are worn.
func TestP83Wear(t *testing.T) {
	t.Parallel()
	for _, sh := range []shape{small, {g: api.Geometry{Blocks: 16, Pages: 8}, logs: 1, reserve: 0}} {
		for _, isMounted := range []bool{false, true} {
			s := stream(8)
			r := rigged(t, sh, nil).format()
			for sector := range r.may {
				r.write(sector)
			}
			moved := map[int]bool{}
			for turn := range 4000 {
				was := r.f.Table()
				r.write(r.hot(&s))
				for block, phys := range r.f.Table().Data {
					if block > 1 && phys != was.Data[block] && was.Data[block] >= 0 {
						moved[phys] = true
					}
				}
				if isMounted && turn%50 == 0 {
					r.mount()
				}
			}
			r.all()
			least, most := pool.Spread(r.f.Pool())
			if most < 80 || most-least > 20 {
				t.Errorf("%v: Wear from %d to %d", sh, least, most)
			}
			if len(moved) < 5 {
				t.Errorf("%v: data that rests moved to %v", sh, moved)
			}
			r.mount().all()
		}
	}
}

// It moves behind a merge of a write, as soon as the gap is there, and not ahead of that.
func TestP83TheGap(t *testing.T) {
	s := stream(9)
	r := rigged(t, small, nil).format()
	for sector := range r.may {
		r.write(sector)
	}
	moved, stayed := 0, 0
	for range 4000 {
		was, p := r.f.Table(), r.f.Pool()
		sector := r.hot(&s)
		step, _ := plan.Want(was, sector)
		r.write(sector)
		now := r.f.Table()
		isMerge := step.Kind == api.StFull || step.Kind == api.StVictim
		for block, phys := range now.Data {
			if block < 2 || phys == was.Data[block] || phys == was.Seq.Phys {
				continue
			}
			moved++
			// A write erases a block but once or twice.
			if !isMerge || p.Wear[phys]+2 < p.Wear[was.Data[block]]+16 {
				t.Fatalf("from %d to %d: Wear %v", was.Data[block], phys, p.Wear)
			}
		}
		if _, _, ok := pool.Cold(p, 16); ok && !isMerge {
			stayed++
		}
		// But one moves behind each merge, so several may wait their turn.
		if _, _, ok := pool.Cold(r.f.Pool(), 24); ok && isMerge {
			t.Fatalf("data still rests: %v", r.f.Pool())
		}
	}
	if moved < 20 || stayed < 5 {
		t.Errorf("data moved %d times, and waited %d times", moved, stayed)
	}
}

// mixed is a row in which all kinds of merges come up in few writes.
func mixed(turn, size, pages int) int {
	s := stream(turn / 9 * 7919)
	s.next()
	switch turn / 9 % 3 {
	case 0:
		return (s.below(size)/pages*pages + turn%9) % size
	case 1:
		return (turn*5 + 1) % size
	}
	return (turn%2*pages + turn%3) % size
}

// drive does so many turns of the mixed row, with a mount behind each cut.
func (r *rig) drive(turns int) {
	r.t.Helper()
	for turn := range turns {
		if r.f == nil || r.f.Only() {
			return
		}
		if r.write(mixed(turn, len(r.may), r.g.Pages)) == api.ErrPower {
			r.mount().tidy()
			r.all()
		}
	}
}

// masks leave a page whole, or nothing of it, or some of it; of a block some pages.
func masks() [][]byte {
	some := make([]byte, 288)
	some[100] = 0xff
	first := make([]byte, 287)
	for i := range 3 {
		first[i] = 0xff
	}
	return [][]byte{nil, {0xff}, {0x5a, 0x0f}, {0, 0, 0, 0, 0, 0, 0, 1}, some, first}
}

// cutShape is small, so that all cuts can be tried; as many blocks are bad as may be, so that there is no room beyond what must be.
var cutShape = shape{g: api.Geometry{Blocks: 16, Pages: 4}, logs: 2, reserve: 3}

var cutBad = []int{2, 9, 15}

const cutTurns = 75

// span is the operations of the mixed row: the first one behind the mount, and the last one.
func span(t *testing.T, sh shape, bad []int) (int64, int64) {
	t.Helper()
	r := rigged(t, sh, bad).format()
	first := r.c.Ops() + 1
	r.drive(cutTurns)
	r.mount()
	return first, r.c.Ops()
}

// end brings a row to its end: all is as it must be, behind two further mounts as well, and it goes on.
func (r *rig) end() {
	r.t.Helper()
	for range 2 {
		r.mount().tidy()
		r.all()
	}
	for sector := range r.may {
		// An event that is still to come may be here.
		for sector%5 == 1 && r.write(sector) != api.OK {
			r.mount().tidy()
		}
	}
	r.all()
	r.mount().all()
}

func TestP84CutAtEach(t *testing.T) {
	t.Parallel()
	first, last := span(t, cutShape, cutBad)
	if last < first+200 {
		t.Fatalf("but operations %d to %d", first, last)
	}
	for at := first; at <= last; at++ {
		for _, mask := range masks() {
			r := rigged(t, cutShape, cutBad, api.Event{At: at, Kind: api.EvCut, Mask: mask}).format()
			r.drive(cutTurns)
			r.end()
		}
	}
}

// Behind a cut the power goes again, in the mount that follows, at each of its operations; and once more in the one behind that.
func TestP84CutAgainInTheMount(t *testing.T) {
	t.Parallel()
	first, last := span(t, cutShape, cutBad)
	s := stream(841)
	for at := first; at <= last; at++ {
		for next := at + 1; next <= at+14; next++ {
			if s.below(4) > 0 {
				continue
			}
			events := []api.Event{{At: at, Kind: api.EvCut, Mask: s.mask()}, {At: next, Kind: api.EvCut, Mask: s.mask()}}
			if s.below(2) == 0 {
				events = append(events, api.Event{At: next + 1 + int64(s.below(12)), Kind: api.EvCut, Mask: s.mask()})
			}
			r := rigged(t, cutShape, cutBad, events...).format()
			r.drive(cutTurns)
			r.end()
		}
	}
}

// Cuts come again and again, in all kinds of disks.
func TestP84CutAgainAndAgain(t *testing.T) {
	for _, sh := range shapes {
		t.Run(fmt.Sprint(sh), func(t *testing.T) {
			t.Parallel()
			for seed := range 12 {
				s := stream(seed*31 + sh.logs)
				bad := []int{1, 3, 8}[:min(sh.reserve, 3)]
				gap := []int{2, 5, 20, 90}[seed%4]
				r := rigged(t, sh, bad, someEvents(&s, 200, gap, 250, api.EvCut)...).format()
				for turn := range 500 {
					sector := s.below(len(r.may))
					if s.below(2) == 0 {
						sector = mixed(turn, len(r.may), r.g.Pages)
					}
					if r.write(sector) == api.ErrPower {
						r.mount().tidy()
					}
				}
				r.end()
			}
		})
	}
}

// Many logical blocks have pages in logs at each mount: what older mounts left behind must not fill the chip.
func TestP84MountAfterMount(t *testing.T) {
	t.Parallel()
	for seed := range 8 {
		s := stream(seed)
		sh := shape{g: api.Geometry{Blocks: 16 + s.below(8), Pages: 16}, logs: 1}
		r := rigged(t, sh, nil).format()
		for sector := range r.may {
			r.write(sector)
		}
		for range 20 {
			for first := 0; first < len(r.may); first += 16 {
				if s.below(4) > 0 {
					is(t, "Write", r.write(first+1+s.below(15)), api.OK)
				}
			}
			r.mount().tidy()
			r.all()
		}
	}
}

// fails is how many of the events that made an operation fail have come.
func fails(events []api.Event, ops int64) int {
	n := 0
	for _, e := range events {
		if e.Kind == api.EvFail && e.At <= ops {
			n++
		}
	}
	return n
}

// atMost is P8.5: no more blocks are out of use than there were failures.
func (r *rig) atMost(bad int, events []api.Event) {
	r.t.Helper()
	if out := pool.Count(r.f.Pool(), api.RoBad); out > bad+fails(events, r.c.Ops()) {
		r.t.Fatalf("P8.5: %d blocks out of use, behind %d failures", out, fails(events, r.c.Ops()))
	}
}

// As many operations fail as there are blocks in reserve, wherever they are.
func TestP85FailAtEach(t *testing.T) {
	t.Parallel()
	sh := shape{g: api.Geometry{Blocks: 16, Pages: 4}, logs: 2, reserve: 3}
	first, last := span(t, sh, []int{7})
	s := stream(85)
	put := 0
	for at := first; at <= last; at++ {
		for _, mask := range masks() {
			events := []api.Event{{At: at, Kind: api.EvFail, Mask: mask}}
			if s.below(2) == 0 {
				events = append(events, api.Event{At: at + 1 + int64(s.below(10)), Kind: api.EvFail, Mask: s.mask()})
			}
			r := rigged(t, sh, []int{7}, events...).format()
			for turn := range cutTurns {
				if e := r.write(mixed(turn, len(r.may), 4)); e != api.OK {
					t.Fatal("Write", e)
				}
				r.atMost(1, events)
			}
			r.all()
			was := r.f.Pool()
			r.mount().tidy()
			for block, role := range was.Roles {
				if role == api.RoBad && r.f.Pool().Roles[block] != api.RoBad {
					t.Fatalf("P8.7: block %d is in use again", block)
				}
			}
			put += pool.Count(was, api.RoBad) - 1
			r.atMost(1, events)
			r.end()
		}
	}
	if put < int(last-first) {
		t.Errorf("but %d blocks were put out of use", put)
	}
}

// More and more operations fail, till it is read-only; what is read is right, whatever comes.
func TestP85Beyond(t *testing.T) {
	for _, sh := range shapes {
		t.Run(fmt.Sprint(sh), func(t *testing.T) {
			t.Parallel()
			only, small := 0, 0
			for seed := range 24 {
				s := stream(seed*57 + sh.g.Pages)
				gap := []int{1, 3, 9, 40}[seed%4]
				events := someEvents(&s, 160+int64(s.below(100)), gap, 200, api.EvFail)
				r := rigged(t, sh, nil, events...).format()
				for turn := range 1500 {
					e := r.write(mixed(turn, len(r.may), r.g.Pages))
					r.atMost(0, events)
					if turn%20 == 0 || e != api.OK {
						r.all()
					}
					if e == api.ErrOnly {
						only++
						break
					}
					if s.below(300) == 0 && r.mount().f == nil {
						break
					}
				}
				if r.f != nil && r.mount().f == nil {
					small++
				}
			}
			if only < 8 || small < 8 {
				t.Errorf("%d came to be read-only, %d had too few blocks then", only, small)
			}
		})
	}
}

// Failures and cuts together.
func TestP85WithCuts(t *testing.T) {
	for _, sh := range shapes {
		t.Run(fmt.Sprint(sh), func(t *testing.T) {
			t.Parallel()
			for seed := range 24 {
				s := stream(seed*91 + sh.g.Blocks)
				gap := []int{3, 8, 20, 60}[seed%4]
				kinds := [][]int{{api.EvCut, api.EvFail}, {api.EvCut, api.EvCut, api.EvCut, api.EvCut, api.EvCut, api.EvCut, api.EvFail}}[seed/4%2]
				events := someEvents(&s, 160, gap, 150, kinds...)
				r := rigged(t, sh, nil, events...).format()
				for turn := range 400 {
					sector := s.below(len(r.may))
					if s.below(2) == 0 {
						sector = mixed(turn, len(r.may), r.g.Pages)
					}
					if r.write(sector) != api.OK && r.mount().f == nil {
						break
					}
					r.atMost(0, events)
				}
				if r.f != nil && !r.f.Only() {
					r.all()
					r.mount()
				}
			}
		})
	}
}

// The most that any write took is well below the bound, and not so low that the rows were idle.
func TestP87Operations(t *testing.T) {
	for _, sh := range shapes {
		s := stream(87)
		r := rigged(t, sh, nil).format()
		for turn := range 40 * r.g.Pages {
			r.write(mixed(turn+s.below(3), len(r.may), r.g.Pages))
			ops := r.c.Ops()
			r.f.Read(s.below(len(r.may)))
			r.f.Flush()
			r.f.Table()
			r.f.Pool()
			r.f.State()
			is(t, "operations of what does none", r.c.Ops(), ops)
		}
		if r.ops <= int64(r.g.Pages) || r.ops > r.bound() {
			t.Errorf("%v: at most %d operations, of %d", sh, r.ops, r.bound())
		}
	}
}

// What is known of the wear is not far behind the chip's own, also behind a mount; Format's own erases are not known.
func TestP87Wear(t *testing.T) {
	t.Parallel()
	for _, sh := range shapes {
		r := rigged(t, sh, nil)
		is(t, "Format", ftl.Format(r.c, sh.logs, sh.reserve), api.OK)
		behind := r.erases()
		r.mount()
		for round := range 5 {
			for turn := range 300 {
				r.write(mixed(turn*7+round, len(r.may), r.g.Pages))
				if got := r.erases() - known(r); got > behind {
					t.Fatalf("%d erases are not known, not %d", got, behind)
				}
			}
			r.mount()
			// Of a mount, too, at most so many have not been written.
			behind += api.MaxRecords
			if got := r.erases() - known(r); got > behind {
				t.Fatalf("%d erases are not known, behind %d mounts", got, round+1)
			}
		}
	}
}

// known is how many erases the disk knows of.
func known(r *rig) int64 {
	n := int64(0)
	for _, wear := range r.f.Pool().Wear {
		n += wear
	}
	return n
}

// sheets is the pages of records on a chip, and in which blocks they are.
func sheets(c *nand.Chip) ([]api.MapPage, []int) {
	var l []api.MapPage
	var blocks []int
	for block := range c.Geometry().Blocks {
		for _, p := range c.Pages(block) {
			h, data, e := page.Decode(p)
			if m, e2 := mapjnl.Parse(data); e == api.OK && e2 == api.OK && h.Kind == api.PgAnchor {
				l, blocks = append(l, m), append(blocks, block)
			}
		}
	}
	return l, slices.Compact(blocks)
}

// Behind each call one block has records, a whole checkpoint among them; they know each bad block, and behind a mount all that there is to know.
func TestP87Records(t *testing.T) {
	t.Parallel()
	for _, sh := range shapes {
		s := stream(88)
		events := someEvents(&s, 300, 400, 3, api.EvFail)
		r := rigged(t, sh, nil, events...).format()
		gen, full := int64(0), 0
		for turn := range 600 {
			isMount := s.below(25+turn/4) == 0
			if isMount {
				r.mount()
			} else {
				r.write(mixed(turn, len(r.may), r.g.Pages))
			}
			if r.f == nil || r.f.Only() {
				break
			}
			l, blocks := sheets(r.c)
			p := r.f.Pool()
			blocks = slices.DeleteFunc(blocks, func(block int) bool { return p.Roles[block] == api.RoBad })
			if len(blocks) != 1 || p.Roles[blocks[0]] != api.RoMap {
				t.Fatalf("records in %v, roles %v", blocks, p.Roles)
			}
			// It is filled page by page, and but then begun anew.
			look, _ := r.c.Look(blocks[0])
			for number := range look.Next {
				p, _ := r.c.Read(blocks[0], number)
				is(t, "a page of records", page.State(p), api.OK)
			}
			if look.Next == r.g.Pages {
				full++
			}
			state, now, _ := mapjnl.Replay(r.g.Blocks, l...)
			if isMount && now <= gen {
				t.Fatalf("the generation %d behind %d", now, gen)
			}
			gen = now
			parts := 0
			for _, m := range l {
				if m.Kind == api.MpPart && m.Gen == gen {
					parts++
				}
				if len(blocks) == 1 && pool.Count(p, api.RoBad) == 0 && m.Gen != gen {
					t.Fatalf("the generations %d and %d", m.Gen, gen)
				}
			}
			is(t, "parts", parts, mapjnl.Parts(r.g.Blocks))
			if !mapjnl.Covers(r.f.State(), state) || !slices.Equal(state.Bad, r.f.State().Bad) {
				t.Fatalf("records say %v, it knows %v", state, r.f.State())
			}
			waiting := int64(0)
			for block, wear := range r.f.State().Wear {
				waiting += wear - state.Wear[block]
			}
			if waiting > api.MaxRecords {
				t.Fatalf("%d records wait", waiting)
			}
		}
		if r.g.Pages == 4 && full == 0 {
			t.Errorf("%v: no block was ever full of records", sh)
		}
	}
}

// Of books the newest one whose checkpoint is whole stays till another one is whole, wherever the power goes.
func TestP84TheBookStays(t *testing.T) {
	t.Parallel()
	sh := shape{g: api.Geometry{Blocks: 130, Pages: 9}, logs: 1, reserve: 3}
	base := rigged(t, sh, []int{4}, failAt(150)).format()
	base.drive(40)
	base.mount()
	was := base.c.Ops()
	base.mount()
	is(t, "bad blocks", pool.Count(base.f.Pool(), api.RoBad), 2)
	for at := was + 1; at <= base.c.Ops(); at++ {
		for next := at; next < at+6; next++ {
			events := []api.Event{failAt(150), cutAt(at)}
			if next > at {
				events = append(events, cutAt(next))
			}
			r := rigged(t, sh, []int{4}, events...).format()
			r.drive(40)
			r.mount()
			r.mount()
			is(t, "the bad block is known", slices.Equal(r.f.State().Bad, base.f.State().Bad), true)
		}
	}
}

// junk programs any pages with anything.
func junk(t *testing.T, s *stream, c *nand.Chip, size int) {
	t.Helper()
	g := c.Geometry()
	greatest := []int64{5, 60, 1 << 40, api.MaxSeq}[s.below(4)]
	often := s.below(4)
	for block := range g.Blocks {
		if s.below(4) < often {
			continue
		}
		for number := range g.Pages {
			if s.below(4) == 0 {
				continue
			}
			h := api.Header{Kind: 1 + s.below(2), Page: s.below(size + 2), Seq: 1 + int64(s.next()<<30^s.next())%greatest}
			if h.Stamp = h.Seq; h.Kind == api.PgData && s.below(2) == 0 {
				h.Stamp = min(h.Seq+int64(s.below(20)), api.MaxSeq)
			}
			if s.below(3) == 0 {
				// So that some stand where a fold would put them.
				h.Page = s.below(3)*g.Pages + number
			}
			data := s.bytes(api.PageLen)
			if s.below(6) == 0 {
				h.Kind, h.Stamp = api.PgAnchor, h.Seq
				data = anything(s, g.Blocks)
			}
			p, e := page.Encode(h, data)
			if e != api.OK {
				t.Fatal("Encode", h, e)
			}
			if s.below(6) == 0 {
				p = page.Tear(p, s.mask())
			}
			if s.below(12) == 0 {
				copy(p.Data[:], s.bytes(api.PageLen))
				copy(p.Oob[:], s.bytes(api.OobLen))
			}
			if e := c.Program(block, number, p); e != api.OK {
				t.Fatal("Program", e)
			}
		}
	}
}

// anything is a page of records that may be, or any bytes.
func anything(s *stream, blocks int) []byte {
	gen := []int64{0, 3, int64(s.below(50)), api.MaxGen - 1, api.MaxGen}[s.below(5)]
	state, _ := mapjnl.New(blocks)
	for block := range blocks {
		state.Bad[block] = s.below(40) == 0
		state.Wear[block] = int64(s.below(1+s.below(2)*api.MaxWear) + s.below(3))
		state.Wear[block] = min(state.Wear[block], api.MaxWear)
	}
	state.Seq = []int64{0, 9, api.MaxSeq}[s.below(3)%(1+s.below(3))]
	pages, _ := mapjnl.Checkpoint(state, gen)
	m := pages[s.below(len(pages))]
	if s.below(2) == 0 {
		m, _ = mapjnl.Records(gen, api.MapRecord{Kind: api.MrBad, Block: s.below(256)}, api.MapRecord{Kind: api.MrWear, Block: s.below(256), Value: int64(s.below(99))})
	}
	b, _ := mapjnl.Bytes(m)
	if s.below(4) == 0 {
		return s.bytes(s.below(api.PageLen + 1))
	}
	return b
}

// newest is what each sector may be on a chip of any pages, worked out page by page: the data of all copies with the greatest number.
func newest(c *nand.Chip, bad []bool, sectors int) [][][]byte {
	seqs, l := make([]int64, sectors), make([][][]byte, sectors)
	for block := range c.Geometry().Blocks {
		for _, p := range c.Pages(block) {
			h, data, e := page.Decode(p)
			if bad[block] || e != api.OK || h.Kind == api.PgAnchor || h.Page >= sectors || h.Seq < seqs[h.Page] {
				continue
			}
			if h.Seq > seqs[h.Page] {
				seqs[h.Page], l[h.Page] = h.Seq, nil
			}
			l[h.Page] = append(l[h.Page], data)
		}
	}
	return l
}

// P8.8, and that what Mount makes of anything is a disk that goes on.
func TestP88WhateverIsThere(t *testing.T) {
	t.Parallel()
	seen := map[string]int{}
	for seed := range 500 {
		s := stream(seed * 8117)
		sh := shape{g: api.Geometry{Blocks: 16 + s.below(30), Pages: 4 + s.below(5)}, logs: 1 + s.below(3), reserve: s.below(8)}
		n, e := ftl.Sectors(sh.g, sh.logs, sh.reserve)
		if e != api.OK {
			continue
		}
		c := chip(t, sh.g, nil)
		junk(t, &s, c, n)
		was := c.Clone()
		f, e := ftl.Mount(c, sh.logs, sh.reserve)
		if e == api.ErrSmall {
			seen["small"]++
			continue
		}
		if e != api.OK {
			t.Fatal("Mount", e)
		}
		for sector, copies := range newest(was, f.State().Bad, n) {
			if len(copies) == 0 {
				copies = [][]byte{make([]byte, api.PageLen)}
			}
			b, e := f.Read(sector)
			if e != api.OK || !slices.ContainsFunc(copies, func(c []byte) bool { return bytes.Equal(b, c) }) {
				t.Fatalf("seed %d, sector %d: %d, one of %d copies", seed, sector, e, len(copies))
			}
		}
		r := &rig{t: t, shape: sh, c: c, f: f, may: make([][]int, n), full: true}
		r.right()
		r.tidy()
		if f.Only() {
			seen["only"]++
			is(t, "Write", f.Write(0, content(0, 1)), api.ErrOnly)
			continue
		}
		seen["disk"]++
		for sector := range n {
			is(t, "Write", r.write(sector), api.OK)
		}
		for turn := range 60 {
			is(t, "Write", r.write(mixed(turn, n, r.g.Pages)), api.OK)
		}
		r.all()
		r.mount().all()
	}
	for _, name := range []string{"small", "only", "disk"} {
		if seen[name] < 25 {
			t.Errorf("%s: but %d", name, seen[name])
		}
	}
}

// The power goes at any operation of a mount of anything.
func TestP88WithCuts(t *testing.T) {
	t.Parallel()
	for seed := range 150 {
		s := stream(seed * 5077)
		sh := shape{g: api.Geometry{Blocks: 16 + s.below(6), Pages: 4}, logs: 1, reserve: s.below(3)}
		n, _ := ftl.Sectors(sh.g, sh.logs, sh.reserve)
		c := chip(t, sh.g, nil, someEvents(&s, 100, 20, 40, api.EvCut, api.EvFail)...)
		for c.On() && c.Ops() < 90 {
			block := s.below(sh.g.Blocks)
			l, _ := c.Look(block)
			h := api.Header{Kind: api.PgLog, Page: s.below(n), Seq: 1 + c.Ops(), Stamp: 1 + c.Ops()}
			p, _ := page.Encode(h, s.bytes(api.PageLen))
			if l.Next < sh.g.Pages {
				c.Program(block, l.Next, p)
			}
			if s.below(30) == 0 {
				c.Erase(block)
			}
		}
		for range 20 {
			c.Restart()
			f, e := ftl.Mount(c, sh.logs, sh.reserve)
			if (f == nil) != (e != api.OK) || e != api.OK && e != api.ErrPower && e != api.ErrSmall {
				t.Fatal("Mount", e)
			}
			if e == api.OK && plan.Check(f.Table()) != api.OK {
				t.Fatal("Table")
			}
		}
	}
}

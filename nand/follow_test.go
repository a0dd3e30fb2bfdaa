package nand_test

import (
	"testing"

	"slipway/api"
	"slipway/nand"
	"slipway/seal"
)

// journal is what a test saw of a chip's calls, and what must follow of it.
type journal struct {
	ops    int64
	erases int64
	given  map[[2]int]api.Page // what was programmed since the last whole erase
	broken map[[2]int]bool     // the page was in an erase that failed or was cut, since then
	behind []int               // of each block: the last page programmed since the last whole erase, and 1
}

func begun(g api.Geometry) *journal {
	return &journal{given: map[[2]int]api.Page{}, broken: map[[2]int]bool{}, behind: make([]int, g.Blocks)}
}

func pagesOf(c *nand.Chip, block int) []api.Page {
	var pages []api.Page
	for _, p := range c.Pages(block) {
		pages = append(pages, p)
	}
	return pages
}

func covers(now, was api.Page) bool { return seal.Covers(bytesOf(now), bytesOf(was)) }

// programmed notes a Program, and holds the chip against what follows.
func (j *journal) programmed(t *testing.T, c *nand.Chip, block, page int, p api.Page, was state, e api.Errno) {
	t.Helper()
	now := tell(c)
	pages := was.shape.Pages
	for i := range now.pages {
		if i != block*pages+page && now.pages[i] != was.pages[i] {
			t.Fatalf("Program(%d, %d) changed page %d", block, page, i)
		}
	}
	if !was.on || e == api.ErrPlace || e == api.ErrBad || e == api.ErrDirty {
		j.refused(t, was, now, e)
		return
	}
	if page < j.behind[block] {
		t.Fatalf("P2.7: page %d was programmed behind page %d", page, j.behind[block]-1)
	}
	j.behind[block] = page + 1
	j.ops++
	j.given[[2]int{block, page}] = p
	got := now.pages[block*pages+page]
	if e == api.OK && got != p {
		t.Fatalf("P2.6: Program(%d, %d) is read otherwise", block, page)
	}
	if !covers(got, p) {
		t.Fatalf("P2.5: Program(%d, %d)", block, page)
	}
}

// wiped notes an Erase, and holds the chip against what follows.
func (j *journal) wiped(t *testing.T, c *nand.Chip, block int, was state, e api.Errno) {
	t.Helper()
	now := tell(c)
	pages := was.shape.Pages
	for i := range now.pages {
		if i/pages != block && now.pages[i] != was.pages[i] {
			t.Fatalf("Erase(%d) changed page %d", block, i)
		}
		if i/pages == block && e != api.OK && !covers(now.pages[i], was.pages[i]) {
			t.Fatalf("P2.5: Erase(%d), page %d", block, i%pages)
		}
	}
	if !was.on || e == api.ErrPlace || e == api.ErrBad {
		j.refused(t, was, now, e)
		return
	}
	j.ops++
	j.erases++
	for page := range pages {
		at := [2]int{block, page}
		if e != api.OK {
			j.broken[at] = true
			continue
		}
		delete(j.given, at)
		delete(j.broken, at)
		j.behind[block] = 0
	}
}

func (j *journal) refused(t *testing.T, was, now state, e api.Errno) {
	t.Helper()
	if !now.same(was) {
		t.Fatalf("a call that was refused by %d changed the chip", e)
	}
	if !was.on && e != api.ErrPower {
		t.Fatalf("P2.9: %d without power", e)
	}
}

// holds is what must be true of the chip at each moment.
func (j *journal) holds(t *testing.T, c *nand.Chip) {
	t.Helper()
	now := tell(c)
	if now.ops != j.ops {
		t.Fatalf("P2.8: Ops %d, not %d", now.ops, j.ops)
	}
	wear := int64(0)
	for _, l := range now.looks {
		wear += l.Wear
	}
	if wear != j.erases {
		t.Fatalf("P2.8: Wear %d in all, not %d", wear, j.erases)
	}
	for i, p := range now.pages {
		at := [2]int{i / now.shape.Pages, i % now.shape.Pages}
		was, programmed := j.given[at]
		switch {
		case !programmed && !j.broken[at] && p != erased:
			t.Fatalf("P2.5: page %v is not erased", at)
		case programmed && !covers(p, was):
			t.Fatalf("P2.5: page %v does not cover what it was programmed with", at)
		}
	}
}

// someEvents are events at about every fourth operation.
func someEvents(s *stream) []api.Event {
	var list []api.Event
	at := int64(0)
	for range 30 {
		at += 1 + int64(s.below(8))
		mask := s.bytes(s.below(api.MaxMask + 1))
		for i := range mask {
			mask[i] &= byte(s.next())
		}
		list = append(list, api.Event{At: at, Kind: 1 + s.below(2), Mask: mask})
	}
	return list
}

func TestP25ToP29(t *testing.T) {
	for seed := range 40 {
		s := stream(seed)
		g := api.Geometry{Blocks: 16, Pages: 4 + s.below(4)}
		c, e := nand.New(g, []int{s.below(16)}, someEvents(&s)...)
		is(t, "New", e, api.OK)
		j := begun(g)
		for range 250 {
			was := tell(c)
			// Few blocks, and places that there are not among them, so that all errors come up.
			block, page := s.below(5)-1, s.below(g.Pages+1)
			switch n := s.below(10); {
			case n < 6:
				p := s.page()
				j.programmed(t, c, block, page, p, was, c.Program(block, page, p))
			case n < 8:
				j.wiped(t, c, block, was, c.Erase(block))
			default:
				is(t, "Restart", c.Restart(), api.OK)
				was.on = true
				if !tell(c).same(was) {
					t.Fatal("P2.9: Restart changed more than the power")
				}
			}
			j.holds(t, c)
		}
	}
}

// What a page was ahead of several erases that were cut still shows through.
func TestP25CutAgainAndAgain(t *testing.T) {
	var s stream = 9
	p := s.page()
	c := chip(t, nil, cut(2, 1), cut(3, 2), cut(4, 4), fail(5, 8))
	is(t, "Program", c.Program(0, 0, p), api.OK)
	was := p
	for _, want := range []api.Errno{api.ErrPower, api.ErrPower, api.ErrPower, api.ErrFail} {
		is(t, "Erase", c.Erase(0), want)
		is(t, "Restart", c.Restart(), api.OK)
		now := pagesOf(c, 0)[0]
		if !covers(now, was) || !covers(now, p) {
			t.Error("a page does not cover what it was")
		}
		was = now
	}
	if was != pageOf(laid(bytesOf(p), []byte{15})) {
		t.Error("the masks did not add up")
	}
	looks(t, c, 0, api.Look{Wear: 4, Next: 4, Bad: true})
}

func TestP29WithoutPower(t *testing.T) {
	var s stream = 10
	c := chip(t, []int{2}, cut(2, 0x55))
	is(t, "Program", c.Program(0, 0, s.page()), api.OK)
	is(t, "Program", c.Program(0, 1, s.page()), api.ErrPower)
	was := tell(c)
	for _, block := range []int{-1, 0, 1, 2, 16} {
		for _, page := range []int{-1, 0, 1, 2, 4} {
			p, e := c.Read(block, page)
			is(t, "Read", e, api.ErrPower)
			if p != (api.Page{}) {
				t.Error("a page beside an error")
			}
			is(t, "Program", c.Program(block, page, erased), api.ErrPower)
		}
		is(t, "Erase", c.Erase(block), api.ErrPower)
	}
	if !tell(c).same(was) {
		t.Error("calls without power changed the chip")
	}
	is(t, "Restart", c.Restart(), api.OK)
	was.on = true
	if !tell(c).same(was) {
		t.Error("Restart changed more than the power")
	}
}

package scan_test

import (
	"slices"
	"testing"

	"slipway/api"
	"slipway/page"
	"slipway/plan"
	"slipway/scan"
)

// shuffle is a list in any order.
func shuffle[T any](s *stream, l []T) []T {
	l = slices.Clone(l)
	for i := range l {
		j := s.below(i + 1)
		l[i], l[j] = l[j], l[i]
	}
	return l
}

// orders hands a row on as it is, turned round, in any order, and with all of it twice.
func orders(s *stream, l []api.Found, look func(name string, l []api.Found)) {
	look("as it is", l)
	turned := slices.Clone(l)
	slices.Reverse(turned)
	look("turned round", turned)
	for range 3 {
		look("in any order", shuffle(s, l))
	}
	look("twice", slices.Concat(l, l))
	look("twice, in any order", shuffle(s, slices.Concat(l, l)))
}

// chip is what stands in the blocks while writes go on as plan says; blocks that are not used any more keep what they have till they are taken again.
type chip struct {
	s       *stream
	x       api.Table
	blocks  [256][]api.Header
	number  int64
	written []int64 // of each logical page the last Seq
}

func newChip(s *stream, pages, logical, k int) *chip {
	return &chip{s: s, x: empty(pages, logical, k), written: make([]int64, pages*logical)}
}

// fresh is a block that is not used, erased.
func (c *chip) fresh() int {
	for {
		// Few blocks, so that they are taken again and again.
		if phys := c.s.below(3*c.x.Logical + 12); !slices.Contains(plan.Used(c.x), phys) {
			c.blocks[phys] = nil
			return phys
		}
	}
}

// put lays a header into a page; those ahead of it that were passed over stay erased.
func (c *chip) put(place api.Place, h api.Header) {
	for len(c.blocks[place.Phys]) <= place.Page {
		c.blocks[place.Phys] = append(c.blocks[place.Phys], api.Header{})
	}
	c.blocks[place.Phys][place.Page] = h
}

// copy does some copies into a block, all but those behind a cut.
func (c *chip) copy(phys int, l []api.Copy, upTo int) {
	for i, from := range l {
		if i < upTo {
			h := c.blocks[from.From.Phys][from.From.Page]
			c.number++
			c.put(at(phys, from.Page), data(h.Page, h.Seq, c.number))
		}
	}
}

// write does what plan wants till the page is there.
func (c *chip) write(t *testing.T, p int) {
	t.Helper()
	for {
		w, e := plan.Want(c.x, p)
		if e != api.OK {
			t.Fatal(e)
		}
		var place api.Place
		switch w.Kind {
		case api.StOpenSeq, api.StOpenRand:
			c.x, e = plan.Open(c.x, w, c.fresh())
		case api.StSeq, api.StRand:
			c.number++
			c.x, place, e = plan.Put(c.x, w, p)
			c.put(place, log(p, c.number))
			c.written[p] = c.number
		case api.StPartial:
			c.copy(c.x.Seq.Phys, slices.Collect(plan.Rest(c.x)), 32)
			c.x, _, e = plan.Switched(c.x)
		case api.StSwitch:
			c.x, _, e = plan.Switched(c.x)
		case api.StDrop:
			c.x, _, e = plan.Dropped(c.x)
		default:
			phys := c.fresh()
			c.copy(phys, slices.Collect(plan.Fold(c.x, w.Block)), 32)
			c.x, _, e = plan.Folded(c.x, w.Block, phys)
		}
		if e != api.OK {
			t.Fatal(w, e)
		}
		if w.Kind == api.StSeq || w.Kind == api.StRand {
			return
		}
	}
}

// found is all that stands anywhere.
func (c *chip) found() []api.Found {
	var l []api.Found
	for phys, block := range c.blocks {
		for number, h := range block {
			if h != (api.Header{}) {
				l = append(l, api.Found{At: at(phys, number), H: h})
			}
		}
	}
	return l
}

// used is a chip behind some writes, perhaps with a merge that was cut.
func used(t *testing.T, s *stream, pages, logical int) *chip {
	t.Helper()
	c := newChip(s, pages, logical, 1+s.below(3))
	for range s.below(6 * pages * logical) {
		switch s.below(3) {
		case 0:
			c.write(t, s.below(pages*logical))
		case 1:
			first := s.below(logical) * pages
			for p := first; p < first+1+s.below(pages); p++ {
				c.write(t, p)
			}
		default:
			c.write(t, s.below(pages))
		}
	}
	if s.below(2) == 0 {
		l := slices.Collect(plan.Fold(c.x, s.below(logical)))
		c.copy(c.fresh(), l, s.below(len(l)+1))
	}
	return c
}

var bothSizes = []int{api.MinPages, api.MaxPages}

// What stands on a chip that was written to is found again, as new as it was written.
func TestP72OnAChip(t *testing.T) {
	var s stream = 720
	for _, pages := range bothSizes {
		for range 40 {
			c := used(t, &s, pages, 1+s.below(5))
			l := c.found()
			newest := scan.Newest(c.x.Pages, c.x.Logical, l...)
			for p, place := range newest {
				want, is := plan.Where(c.x, p)
				if is != (place != nowhere) || is != (c.written[p] > 0) {
					t.Fatalf("page %d: %v, written with %d", p, place, c.written[p])
				}
				if is && (c.blocks[place.Phys][place.Page].Seq != c.written[p] || c.blocks[want.Phys][want.Page].Seq != c.written[p]) {
					t.Fatalf("page %d: %v is older than %v", p, place, want)
				}
			}
			if got := scan.Greatest(l...); got > c.number || got < slices.Max(c.written) {
				t.Fatalf("the greatest: %d of %d", got, c.number)
			}
		}
	}
}

func TestP74WhateverTheOrder(t *testing.T) {
	var s stream = 74
	for _, pages := range bothSizes {
		for i := range 150 {
			logical := 1 + s.below(4)
			l := s.row(pages, logical)
			if i%3 == 0 {
				l = used(t, &s, pages, logical).found()
			}
			newest, greatest := scan.Newest(pages, logical, l...), scan.Greatest(l...)
			best := scan.Best(pages, newest, l...)
			orders(&s, l, func(name string, l []api.Found) {
				if got := scan.Newest(pages, logical, l...); !slices.Equal(got, newest) {
					t.Fatalf("%s: %v, and %v of %v", name, newest, got, l)
				}
				if got := scan.Greatest(l...); got != greatest {
					t.Fatalf("%s: %d, and %d of %v", name, greatest, got, l)
				}
				if got := scan.Best(pages, newest, l...); !slices.Equal(got, best) {
					t.Fatalf("%s: %v, and %v of %v", name, best, got, l)
				}
			})
		}
	}
}

// older is what is older than f, or has its Seq and a greater Stamp, wherever it stands.
func (s *stream) older(f api.Found, pages int) api.Found {
	place := s.place(pages)
	switch {
	case s.below(2) == 0 && f.H.Stamp < api.MaxSeq:
		return api.Found{At: place, H: data(f.H.Page, f.H.Seq, f.H.Stamp+1+int64(s.below(3)))}
	case f.H.Seq == 1:
		return f
	case s.below(2) == 0:
		return api.Found{At: place, H: log(f.H.Page, 1+int64(s.below(int(f.H.Seq-1))))}
	}
	seq := 1 + int64(s.below(int(f.H.Seq-1)))
	return api.Found{At: place, H: data(f.H.Page, seq, seq+int64(s.below(9)))}
}

func TestP75TheOldCountsForNothing(t *testing.T) {
	var s stream = 75
	more := 0
	for _, pages := range bothSizes {
		for i := range 150 {
			logical := 1 + s.below(4)
			l := s.row(pages, logical)
			if i%3 == 0 {
				l = used(t, &s, pages, logical).found()
			}
			newest := scan.Newest(pages, logical, l...)
			both := slices.Clone(l)
			for p := range pages * logical {
				of := counting(pages, p, l)
				for range s.below(4) {
					if len(of) > 0 {
						both = append(both, s.older(of[s.below(len(of))], pages))
						more++
					}
				}
			}
			orders(&s, both, func(name string, l []api.Found) {
				if got := scan.Newest(pages, logical, l...); !slices.Equal(got, newest) {
					t.Fatalf("%s: %v, and %v of %v", name, newest, got, l)
				}
			})
		}
	}
	if more < 5000 {
		t.Error("but so many came to it:", more)
	}
}

// mayBe fails if a table may not be, or does not say where newest does.
func mayBe(t *testing.T, pages, logical int, newest []api.Place) {
	t.Helper()
	x, loose, e := scan.Table(pages, logical, 2, newest)
	if e != api.OK || plan.Check(x) != api.OK {
		t.Fatalf("%v, %v of %v", x, e, newest)
	}
	for p, place := range newest {
		got, is := plan.Where(x, p)
		switch {
		case x.Data[p/pages] == -1 || !isOnChip(32, place):
			if is {
				t.Fatalf("page %d stands at %v, of %v", p, got, newest)
			}
		case !is || got != place:
			t.Fatalf("page %d stands at %v, %v, of %v", p, got, is, newest)
		}
		// A page that has a place is of a settled block, or of one that is told not to be.
		if isOnChip(32, place) && (x.Data[p/pages] == -1) != slices.Contains(loose, p/pages) {
			t.Fatalf("page %d of %v: %v, %v", p, newest, x, loose)
		}
	}
}

func TestP76ItMayBe(t *testing.T) {
	var s stream = 76
	for range 3000 {
		pages, logical := s.sized()
		mayBe(t, pages, logical, s.places(pages, logical))
		l := s.row(pages, logical)
		newest := scan.Newest(pages, logical, l...)
		mayBe(t, pages, logical, newest)
		mayBe(t, pages, logical, scan.Best(pages, newest, l...))
	}
	for _, pages := range bothSizes {
		for range 20 {
			c := used(t, &s, pages, 1+s.below(5))
			newest := scan.Newest(pages, c.x.Logical, c.found()...)
			mayBe(t, pages, c.x.Logical, newest)
			mayBe(t, pages, c.x.Logical, scan.Best(pages, newest, c.found()...))
		}
	}
}

// quiet is a table without logs, of which some blocks have all pages, some few, some none, and some no block.
func (s *stream) quiet(pages, logical int) api.Table {
	x := empty(pages, logical, 1+s.below(8))
	blocks := make([]int, 256)
	for i := range blocks {
		blocks[i] = i
	}
	blocks = shuffle(s, blocks)
	for block := range logical {
		how := s.below(4)
		if how == 0 {
			continue
		}
		x.Data[block] = blocks[block]
		for n := range pages {
			x.Have[block*pages+n] = how == 1 || how == 2 && s.below(3) == 0
		}
	}
	return x
}

func TestP77ItComesBack(t *testing.T) {
	var s stream = 77
	for _, pages := range bothSizes {
		for i := range 60 {
			logical := []int{1, 2, 7, 20, 256}[i%5]
			x := s.quiet(pages, logical)
			if plan.Check(x) != api.OK {
				t.Fatal(x)
			}
			var l []api.Found
			want := empty(pages, logical, x.K)
			for p := range pages * logical {
				if place, is := plan.Where(x, p); is {
					seq := int64(1 + s.below(1000))
					l = append(l, api.Found{At: place, H: data(p, seq, seq+int64(s.below(3)))})
					with(want, p/pages, x.Data[p/pages], p%pages)
				}
			}
			orders(&s, l, func(name string, l []api.Found) {
				newest := scan.Newest(pages, logical, l...)
				table(t, name, newest, want)
				table(t, name+", the best", scan.Best(pages, newest, l...), want)
			})
		}
	}
}

// hasAll tells of the least block that has all of a logical block's newest copies, each at its number.
func hasAll(pages, block int, l []api.Found) (int, bool) {
	return leastOf(func(phys int) bool {
		some := false
		for number := range pages {
			of := counting(pages, block*pages+number, l)
			f, is := newestOf(of)
			if is && standsWith(of, at(phys, number)) != f.H.Seq {
				return false
			}
			some = some || is
		}
		return some
	})
}

func leastOf(ok func(phys int) bool) (int, bool) {
	for phys := range 256 {
		if ok(phys) {
			return phys, true
		}
	}
	return 0, false
}

// asNew fails if what Best answers is older than what is there, or is not settled where it might be.
func asNew(t *testing.T, pages, logical int, l []api.Found) (gathered, settled int) {
	t.Helper()
	newest := scan.Newest(pages, logical, l...)
	best := scan.Best(pages, newest, l...)
	for p, place := range best {
		of := counting(pages, p, l)
		f, is := newestOf(of)
		if is != (place != nowhere) || is && standsWith(of, place) != f.H.Seq {
			t.Fatalf("page %d: %v, though it was %v", p, place, newest[p])
		}
	}
	for block := range logical {
		phys, is := hasAll(pages, block, l)
		if !is {
			continue
		}
		gathered++
		foreign := slices.ContainsFunc(slices.Concat(best[:block*pages], best[(block+1)*pages:]), func(p api.Place) bool { return p.Phys == phys })
		got, ok := scan.Settled(pages, best, block)
		if ok == foreign || ok && got != phys {
			t.Fatalf("logical block %d: %d, %v, though block %d has all of it", block, got, ok, phys)
		}
		if ok {
			settled++
		}
	}
	return gathered, settled
}

func TestP78TheBestIsAsNew(t *testing.T) {
	var s stream = 78
	for _, pages := range bothSizes {
		gathered, settled := 0, 0
		for i := range 60 {
			logical := 1 + s.below(4)
			l := s.row(pages, logical)
			if i%2 == 0 {
				l = used(t, &s, pages, logical).found()
			}
			orders(&s, l, func(name string, l []api.Found) {
				g, n := asNew(t, pages, logical, l)
				gathered, settled = gathered+g, settled+n
			})
		}
		if settled < 50 || gathered == settled {
			t.Errorf("%d pages: %d gathered, %d settled", pages, gathered, settled)
		}
	}
}

// A merge that was cut behind its last copy leaves a block that has all: it is settled there, though the older copies are the newest by their Stamps.
func TestP78BehindAMerge(t *testing.T) {
	for _, pages := range bothSizes {
		var l []api.Found
		for p := range pages {
			l = append(l, found(20+p%2, p, p, int64(p+1)), api.Found{At: at(9, p), H: data(p, int64(p+1), int64(100+p))})
		}
		newest := scan.Newest(pages, 1, l...)
		if _, is := scan.Settled(pages, newest, 0); is {
			t.Error("it is settled already", newest)
		}
		settled(t, "the best", pages, scan.Best(pages, newest, l...), 0, 9)
		settled(t, "one page less", pages, scan.Best(pages, newest, l[:2*pages-1]...), 0, -1)
	}
}

// From pages to a table: what Pages tells of each block of a chip is what the rest goes by.
func TestPagesToTable(t *testing.T) {
	var s stream = 79
	for _, pages := range bothSizes {
		c := used(t, &s, pages, 3)
		var l []api.Found
		for phys, block := range c.blocks {
			var raw []api.Page
			for _, h := range block {
				p, e := page.Encode(h, nil)
				if e != api.OK {
					p = page.Erased()
				}
				raw = append(raw, p)
			}
			l = slices.AppendSeq(l, scan.Pages(phys, raw))
		}
		if !slices.Equal(l, c.found()) {
			t.Errorf("%d pages: what was found is not what is there", pages)
		}
	}
}

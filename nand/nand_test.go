package nand_test

import (
	"bytes"
	"math"
	"slices"
	"testing"

	"slipway/api"
	"slipway/nand"
)

var small = api.Geometry{Blocks: 16, Pages: 4}

// stream is a row of numbers that is the same each time.
type stream uint64

func (s *stream) next() uint64 {
	*s = *s*6364136223846793005 + 1442695040888963407
	return uint64(*s >> 33)
}

func (s *stream) below(n int) int { return int(s.next() % uint64(n)) }

func (s *stream) bytes(n int) []byte {
	b := make([]byte, n)
	for i := range b {
		b[i] = byte(s.next())
	}
	return b
}

func (s *stream) page() api.Page { return pageOf(s.bytes(api.PageLen + api.OobLen)) }

func pageOf(b []byte) api.Page {
	var p api.Page
	copy(p.Data[:], b)
	copy(p.Oob[:], b[api.PageLen:])
	return p
}

func filled(b byte) api.Page {
	return pageOf(bytes.Repeat([]byte{b}, api.PageLen+api.OobLen))
}

var erased = filled(0xff)

func bytesOf(pages ...api.Page) []byte {
	var b []byte
	for _, p := range pages {
		b = append(b, p.Data[:]...)
		b = append(b, p.Oob[:]...)
	}
	return b
}

// laid is b with the mask over it, worked out bit by bit.
func laid(b, mask []byte) []byte {
	b = bytes.Clone(b)
	for i := range len(b) * 8 {
		if len(mask) > 0 && mask[i/8%len(mask)]>>(i%8)&1 == 1 {
			b[i/8] |= 1 << (i % 8)
		}
	}
	return b
}

func fail(at int64, mask ...byte) api.Event {
	return api.Event{At: at, Kind: api.EvFail, Mask: mask}
}

func cut(at int64, mask ...byte) api.Event {
	return api.Event{At: at, Kind: api.EvCut, Mask: mask}
}

func chip(t *testing.T, bad []int, events ...api.Event) *nand.Chip {
	t.Helper()
	c, e := nand.New(small, bad, events...)
	if e != api.OK || c == nil {
		t.Fatalf("New(%v, %v): %v, %v", bad, events, c, e)
	}
	return c
}

// is holds an error against the one that is asked for.
func is(t *testing.T, what string, got, want api.Errno) {
	t.Helper()
	if got != want {
		t.Fatalf("%s: %d, not %d", what, got, want)
	}
}

func reads(t *testing.T, c *nand.Chip, block, page int, want api.Page) {
	t.Helper()
	p, e := c.Read(block, page)
	if e != api.OK || p != want {
		t.Fatalf("Read(%d, %d): %d, %x, not %x", block, page, e, bytesOf(p), bytesOf(want))
	}
}

func looks(t *testing.T, c *nand.Chip, block int, want api.Look) {
	t.Helper()
	if l, e := c.Look(block); e != api.OK || l != want {
		t.Fatalf("Look(%d): %v, %d, not %v", block, l, e, want)
	}
}

// state is all that can be told of a chip without an operation.
type state struct {
	shape api.Geometry
	ops   int64
	on    bool
	looks []api.Look
	pages []api.Page
}

func tell(c *nand.Chip) state {
	s := state{shape: c.Geometry(), ops: c.Ops(), on: c.On()}
	for block := range s.shape.Blocks {
		l, _ := c.Look(block)
		s.looks = append(s.looks, l)
		for _, p := range c.Pages(block) {
			s.pages = append(s.pages, p)
		}
	}
	return s
}

func (s state) same(o state) bool {
	return s.shape == o.shape && s.ops == o.ops && s.on == o.on && slices.Equal(s.looks, o.looks) && slices.Equal(s.pages, o.pages)
}

func TestP21Geometry(t *testing.T) {
	for _, k := range []struct {
		blocks, pages int
		want          api.Errno
	}{
		{15, 4, api.ErrGeometry}, {16, 4, api.OK}, {17, 4, api.OK},
		{16, 3, api.ErrGeometry}, {16, 32, api.OK}, {16, 33, api.ErrGeometry},
		{256, 16, api.OK}, {256, 32, api.OK}, {257, 32, api.ErrGeometry},
		{64, 4, api.OK}, {65, 4, api.ErrGeometry}, {65, 5, api.OK}, {80, 5, api.OK}, {81, 5, api.ErrGeometry},
		{240, 15, api.OK}, {241, 15, api.ErrGeometry}, {256, 15, api.ErrGeometry},
		{0, 0, api.ErrGeometry}, {-16, 4, api.ErrGeometry}, {16, -4, api.ErrGeometry}, {-16, -4, api.ErrGeometry},
		{math.MaxInt, 4, api.ErrGeometry}, {16, math.MaxInt, api.ErrGeometry}, {math.MinInt, math.MinInt, api.ErrGeometry},
	} {
		g := api.Geometry{Blocks: k.blocks, Pages: k.pages}
		c, e := nand.New(g, nil)
		is(t, "New", e, k.want)
		if (c != nil) != (e == api.OK) {
			t.Errorf("New(%v): %v", g, c)
		}
		if e == api.OK && c.Geometry() != g {
			t.Errorf("Geometry: %v, not %v", c.Geometry(), g)
		}
	}
}

func TestP21BadAndEvents(t *testing.T) {
	long := make([]byte, api.MaxMask)
	longer := make([]byte, api.MaxMask+1)
	type events = []api.Event
	for name, k := range map[string]struct {
		g      api.Geometry
		bad    []int
		events []api.Event
		want   api.Errno
	}{
		"nothing":             {small, nil, nil, api.OK},
		"empty":               {small, []int{}, events{}, api.OK},
		"first and last":      {small, []int{15, 0}, nil, api.OK},
		"behind the last":     {small, []int{0, 16}, nil, api.ErrPlace},
		"below 0":             {small, []int{-1}, nil, api.ErrPlace},
		"twice":               {small, []int{5, 3, 5}, nil, api.ErrPlace},
		"all":                 {small, []int{0, 1, 2, 3, 4, 5, 6, 7, 8, 9, 10, 11, 12, 13, 14, 15}, nil, api.OK},
		"at 0":                {small, nil, events{fail(0)}, api.ErrEvent},
		"at -1":               {small, nil, events{cut(-1)}, api.ErrEvent},
		"at the least":        {small, nil, events{cut(math.MinInt64)}, api.ErrEvent},
		"at 1 and the last":   {small, nil, events{fail(1), cut(2), fail(math.MaxInt64)}, api.OK},
		"two at one":          {small, nil, events{fail(1), cut(1)}, api.ErrEvent},
		"falling":             {small, nil, events{fail(3), cut(5), fail(4)}, api.ErrEvent},
		"kind 0":              {small, nil, events{{At: 1}}, api.ErrEvent},
		"kind 3":              {small, nil, events{fail(1), {At: 2, Kind: 3}}, api.ErrEvent},
		"kind -1":             {small, nil, events{{At: 2, Kind: -1}}, api.ErrEvent},
		"a long mask":         {small, nil, events{fail(1, long...)}, api.OK},
		"a longer mask":       {small, nil, events{fail(1, longer...)}, api.ErrEvent},
		"the last one longer": {small, nil, events{cut(1), cut(2, longer...)}, api.ErrEvent},
		"an empty mask":       {small, nil, events{cut(1, []byte{}...)}, api.OK},
		"geometry first":      {api.Geometry{Blocks: 15, Pages: 4}, []int{99}, events{fail(0)}, api.ErrGeometry},
		"bad next":            {small, []int{3, 3}, events{fail(0)}, api.ErrPlace},
	} {
		t.Run(name, func(t *testing.T) {
			c, e := nand.New(k.g, k.bad, k.events...)
			is(t, "New", e, k.want)
			if e != api.OK {
				if c != nil {
					t.Error("a chip beside an error")
				}
				return
			}
			if !c.On() || c.Ops() != 0 || c.Geometry() != k.g {
				t.Error(c.On(), c.Ops(), c.Geometry())
			}
			for block := range k.g.Blocks {
				looks(t, c, block, api.Look{Bad: slices.Contains(k.bad, block)})
				for page := range k.g.Pages {
					reads(t, c, block, page, erased)
				}
			}
		})
	}
}

func TestP22Look(t *testing.T) {
	c := chip(t, []int{7}, fail(5, 1), cut(7, 1))
	for _, block := range []int{-1, 16, math.MinInt, math.MaxInt} {
		l, e := c.Look(block)
		is(t, "Look", e, api.ErrPlace)
		if l != (api.Look{}) {
			t.Error("Look", l)
		}
	}
	looks(t, c, 7, api.Look{Bad: true})
	is(t, "Program", c.Program(1, 0, filled(1)), api.OK)
	looks(t, c, 1, api.Look{Next: 1})
	is(t, "Program", c.Program(1, 3, filled(1)), api.OK)
	looks(t, c, 1, api.Look{Next: 4})
	is(t, "Erase", c.Erase(1), api.OK)
	looks(t, c, 1, api.Look{Wear: 1})
	is(t, "Erase", c.Erase(1), api.OK)
	looks(t, c, 1, api.Look{Wear: 2})
	is(t, "Erase", c.Erase(1), api.ErrFail)
	looks(t, c, 1, api.Look{Wear: 3, Next: 4, Bad: true})
	is(t, "Erase", c.Erase(1), api.ErrBad)
	is(t, "Erase", c.Erase(0), api.OK)
	is(t, "Erase", c.Erase(0), api.ErrPower)
	is(t, "Erase", c.Erase(0), api.ErrPower)
	looks(t, c, 0, api.Look{Wear: 2, Next: 4})
	looks(t, c, 1, api.Look{Wear: 3, Next: 4, Bad: true})
	looks(t, c, 2, api.Look{})
	_, e := c.Look(16)
	is(t, "Look without power", e, api.ErrPlace)
}

func TestP22Pages(t *testing.T) {
	for _, g := range []api.Geometry{small, {Blocks: 16, Pages: 32}} {
		c, _ := nand.New(g, []int{15})
		var s stream = 1
		want := make([]api.Page, g.Pages)
		for i := range want {
			want[i] = erased
			if i%3 == 1 {
				want[i] = s.page()
				is(t, "Program", c.Program(2, i, want[i]), api.OK)
			}
		}
		n := 0
		for i, p := range c.Pages(2) {
			if i != n || p != want[i] {
				t.Errorf("page %d of %d", i, n)
			}
			n++
		}
		if n != g.Pages {
			t.Errorf("%d pages", n)
		}
		for _, block := range []int{-1, g.Blocks, math.MinInt, math.MaxInt} {
			for i := range c.Pages(block) {
				t.Errorf("page %d of block %d", i, block)
			}
		}
		n = 0
		for i, p := range c.Pages(15) {
			if i != n || p != erased {
				t.Errorf("page %d of a bad block", i)
			}
			n++
		}
		if n != g.Pages {
			t.Errorf("%d pages of a bad block", n)
		}
	}
}

func TestP22WithoutPower(t *testing.T) {
	c := chip(t, []int{4}, cut(3, 0x0f))
	is(t, "Program", c.Program(0, 0, filled(1)), api.OK)
	is(t, "Erase", c.Erase(9), api.OK)
	is(t, "Program", c.Program(0, 1, filled(0x30)), api.ErrPower)
	if c.On() || c.Ops() != 3 || c.Geometry() != small {
		t.Error(c.On(), c.Ops(), c.Geometry())
	}
	looks(t, c, 0, api.Look{Next: 2})
	looks(t, c, 4, api.Look{Bad: true})
	looks(t, c, 9, api.Look{Wear: 1})
	var pages []api.Page
	for _, p := range c.Pages(0) {
		pages = append(pages, p)
	}
	if !slices.Equal(pages, []api.Page{filled(1), filled(0x3f), erased, erased}) {
		t.Error("Pages", pages)
	}
	if d := c.Clone(); d.On() || !tell(d).same(tell(c)) {
		t.Error("Clone")
	}
}

func TestP23Places(t *testing.T) {
	c := chip(t, []int{3})
	was := tell(c)
	for _, k := range [][2]int{{-1, 0}, {16, 0}, {0, -1}, {0, 4}, {3, 4}, {3, -1}, {-1, -1}, {16, 4}, {math.MaxInt, 0}, {0, math.MaxInt}, {math.MinInt, math.MinInt}} {
		p, e := c.Read(k[0], k[1])
		is(t, "Read", e, api.ErrPlace)
		if p != (api.Page{}) {
			t.Error("a page beside an error")
		}
		is(t, "Program", c.Program(k[0], k[1], filled(1)), api.ErrPlace)
	}
	for _, block := range []int{-1, 16, math.MaxInt, math.MinInt} {
		is(t, "Erase", c.Erase(block), api.ErrPlace)
	}
	if !tell(c).same(was) {
		t.Error("refused calls changed the chip")
	}
	for _, k := range [][2]int{{0, 0}, {0, 3}, {15, 0}, {15, 3}} {
		is(t, "Program", c.Program(k[0], k[1], filled(byte(k[0]))), api.OK)
		reads(t, c, k[0], k[1], filled(byte(k[0])))
	}
}

func TestP23Bad(t *testing.T) {
	c := chip(t, []int{3})
	was := tell(c)
	reads(t, c, 3, 0, erased)
	is(t, "Program", c.Program(3, 0, filled(1)), api.ErrBad)
	is(t, "Erase", c.Erase(3), api.ErrBad)
	if !tell(c).same(was) {
		t.Error("refused calls changed the chip")
	}
}

func TestP23Next(t *testing.T) {
	c := chip(t, nil)
	var s stream = 2
	a, b := s.page(), s.page()
	is(t, "Program", c.Program(5, 1, a), api.OK)
	was := tell(c)
	is(t, "Program below Next", c.Program(5, 0, b), api.ErrDirty)
	is(t, "Program below Next", c.Program(5, 1, a), api.ErrDirty)
	if !tell(c).same(was) {
		t.Error("refused calls changed the chip")
	}
	is(t, "Program at Next", c.Program(5, 2, b), api.OK)
	reads(t, c, 5, 0, erased)
	reads(t, c, 5, 1, a)
	reads(t, c, 5, 2, b)
	reads(t, c, 5, 3, erased)
	is(t, "Program above Next", c.Program(6, 3, b), api.OK)
	reads(t, c, 6, 2, erased)
	reads(t, c, 6, 3, b)
	for page := range 4 {
		is(t, "Program of a full block", c.Program(6, page, a), api.ErrDirty)
	}
	is(t, "Erase", c.Erase(6), api.OK)
	reads(t, c, 6, 3, erased)
	is(t, "Program behind an Erase", c.Program(6, 0, a), api.OK)
	reads(t, c, 6, 0, a)
	// A page may be programmed with nothing but 1 bits: it was programmed for all that.
	is(t, "Program", c.Program(6, 1, erased), api.OK)
	is(t, "Program", c.Program(6, 1, b), api.ErrDirty)
	looks(t, c, 6, api.Look{Wear: 1, Next: 2})
	if c.Ops() != 6 {
		t.Error("Ops", c.Ops())
	}
}

// masks are masks of many lengths, the edges among them.
func masks() [][]byte {
	var s stream = 3
	list := [][]byte{nil, {}, {0}, {0xff}, {1}, {0x80, 0}}
	for _, n := range []int{2, 3, 7, 31, 32, 33, 255, 256, 257, 287, api.MaxMask} {
		list = append(list, s.bytes(n))
	}
	// All of a page's Data becomes 1 and nothing of its Oob, and the other way round.
	ones, zeros := bytesOf(erased), make([]byte, api.MaxMask)
	return append(list, append(ones[:api.PageLen:api.PageLen], zeros[api.PageLen:]...), append(zeros[:api.PageLen:api.PageLen], ones[api.PageLen:]...))
}

func TestP24Program(t *testing.T) {
	var s stream = 4
	for _, mask := range masks() {
		for _, kind := range []int{api.EvFail, api.EvCut} {
			p, q := s.page(), s.page()
			c := chip(t, nil, api.Event{At: 2, Kind: kind, Mask: mask})
			is(t, "Program", c.Program(1, 0, p), api.OK)
			want := map[int]api.Errno{api.EvFail: api.ErrFail, api.EvCut: api.ErrPower}[kind]
			is(t, "Program", c.Program(1, 2, q), want)
			if c.On() != (kind == api.EvFail) || c.Ops() != 2 {
				t.Fatal(c.On(), c.Ops())
			}
			looks(t, c, 1, api.Look{Next: 3})
			is(t, "Restart", c.Restart(), api.OK)
			reads(t, c, 1, 0, p)
			reads(t, c, 1, 1, erased)
			reads(t, c, 1, 2, pageOf(laid(bytesOf(q), mask)))
			is(t, "Program", c.Program(1, 2, q), api.ErrDirty)
			is(t, "Program", c.Program(1, 3, q), api.OK)
			reads(t, c, 1, 3, q)
			is(t, "Erase", c.Erase(1), api.OK)
			reads(t, c, 1, 2, erased)
		}
	}
}

func TestP24Erase(t *testing.T) {
	var s stream = 5
	for _, mask := range masks() {
		for _, kind := range []int{api.EvFail, api.EvCut} {
			c := chip(t, nil, api.Event{At: 4, Kind: kind, Mask: mask})
			pages := []api.Page{s.page(), erased, s.page(), erased}
			is(t, "Program", c.Program(1, 0, pages[0]), api.OK)
			is(t, "Program", c.Program(1, 2, pages[2]), api.OK)
			is(t, "Program", c.Program(2, 0, pages[2]), api.OK)
			want := map[int]api.Errno{api.EvFail: api.ErrFail, api.EvCut: api.ErrPower}[kind]
			is(t, "Erase", c.Erase(1), want)
			if c.On() != (kind == api.EvFail) || c.Ops() != 4 {
				t.Fatal(c.On(), c.Ops())
			}
			looks(t, c, 1, api.Look{Wear: 1, Next: 4, Bad: kind == api.EvFail})
			is(t, "Restart", c.Restart(), api.OK)
			left := laid(bytesOf(pages...), mask)
			for i := range pages {
				reads(t, c, 1, i, pageOf(left[i*(api.PageLen+api.OobLen):]))
			}
			reads(t, c, 2, 0, pages[2])
			if kind == api.EvFail {
				is(t, "Program", c.Program(1, 3, pages[0]), api.ErrBad)
				is(t, "Erase", c.Erase(1), api.ErrBad)
				continue
			}
			is(t, "Program", c.Program(1, 3, pages[0]), api.ErrDirty)
			is(t, "Erase", c.Erase(1), api.OK)
			looks(t, c, 1, api.Look{Wear: 2})
			reads(t, c, 1, 2, erased)
			is(t, "Program", c.Program(1, 0, pages[2]), api.OK)
			reads(t, c, 1, 0, pages[2])
		}
	}
}

func TestP24EraseOfAFullBlock(t *testing.T) {
	var s stream = 6
	mask := s.bytes(101)
	c, _ := nand.New(api.Geometry{Blocks: 16, Pages: 32}, nil, cut(33, mask...))
	var pages []api.Page
	for i := range 32 {
		pages = append(pages, s.page())
		is(t, "Program", c.Program(15, i, pages[i]), api.OK)
	}
	is(t, "Erase", c.Erase(15), api.ErrPower)
	left := laid(bytesOf(pages...), mask)
	for i, p := range c.Pages(15) {
		if p != pageOf(left[i*(api.PageLen+api.OobLen):]) {
			t.Errorf("page %d", i)
		}
	}
}

func TestP24RefusedAheadOfAnEvent(t *testing.T) {
	c := chip(t, []int{3}, fail(2, 0xf0))
	is(t, "Program", c.Program(0, 1, filled(1)), api.OK)
	is(t, "Program", c.Program(0, 0, filled(1)), api.ErrDirty)
	is(t, "Program", c.Program(3, 0, filled(1)), api.ErrBad)
	is(t, "Program", c.Program(0, 4, filled(1)), api.ErrPlace)
	is(t, "Erase", c.Erase(3), api.ErrBad)
	is(t, "Erase", c.Erase(16), api.ErrPlace)
	reads(t, c, 0, 1, filled(1))
	if c.Ops() != 1 {
		t.Fatal("Ops", c.Ops())
	}
	is(t, "Program", c.Program(0, 2, filled(1)), api.ErrFail)
	reads(t, c, 0, 2, filled(0xf1))
	// The event is over, and the block is as good as before.
	is(t, "Program", c.Program(0, 3, filled(1)), api.OK)
	reads(t, c, 0, 3, filled(1))
	is(t, "Erase", c.Erase(0), api.OK)
}

func TestP24NeverReached(t *testing.T) {
	c := chip(t, nil, cut(7, 0xff))
	for i := range 6 {
		is(t, "Program", c.Program(i, 0, filled(byte(i))), api.OK)
	}
	for i := range 6 {
		reads(t, c, i, 0, filled(byte(i)))
	}
	if !c.On() || c.Ops() != 6 {
		t.Error(c.On(), c.Ops())
	}
}

func TestP24Restart(t *testing.T) {
	c := chip(t, nil, cut(1, 1), cut(2, 2), fail(3, 4), cut(5, 8))
	is(t, "Restart of a chip that is on", c.Restart(), api.OK)
	is(t, "Program", c.Program(0, 0, filled(0x10)), api.ErrPower)
	is(t, "Program", c.Program(0, 1, filled(0x10)), api.ErrPower)
	is(t, "Erase", c.Erase(0), api.ErrPower)
	is(t, "Restart", c.Restart(), api.OK)
	is(t, "Erase", c.Erase(1), api.ErrPower)
	is(t, "Restart", c.Restart(), api.OK)
	is(t, "Program", c.Program(0, 1, filled(0x10)), api.ErrFail)
	is(t, "Program", c.Program(0, 2, filled(0x10)), api.OK)
	is(t, "Program", c.Program(0, 3, filled(0x10)), api.ErrPower)
	if c.On() || c.Ops() != 5 {
		t.Error(c.On(), c.Ops())
	}
	is(t, "Restart", c.Restart(), api.OK)
	is(t, "Restart", c.Restart(), api.OK)
	for i, b := range []byte{0x11, 0x14, 0x10, 0x18} {
		reads(t, c, 0, i, filled(b))
	}
	is(t, "Erase", c.Erase(1), api.OK)
	if !c.On() || c.Ops() != 6 {
		t.Error(c.On(), c.Ops())
	}
}

func TestP24Clone(t *testing.T) {
	c := chip(t, []int{9}, fail(2, 1), cut(4, 2))
	is(t, "Program", c.Program(0, 0, filled(0x10)), api.OK)
	ahead := c.Clone()
	is(t, "Program", c.Program(0, 1, filled(0x10)), api.ErrFail)
	between := c.Clone()
	for _, d := range []*nand.Chip{c, between} {
		is(t, "Erase", d.Erase(5), api.OK)
		is(t, "Program", d.Program(0, 2, filled(0x10)), api.ErrPower)
	}
	if !tell(c).same(tell(between)) {
		t.Error("a clone between the events does otherwise")
	}
	off := c.Clone()
	is(t, "Program", off.Program(0, 3, filled(0)), api.ErrPower)
	is(t, "Restart", off.Restart(), api.OK)
	if c.On() || !off.On() {
		t.Error("On", c.On(), off.On())
	}
	is(t, "Program", off.Program(0, 3, filled(0x10)), api.OK)
	reads(t, off, 0, 2, filled(0x12))

	looks(t, ahead, 0, api.Look{Next: 1})
	looks(t, ahead, 9, api.Look{Bad: true})
	is(t, "Erase", ahead.Erase(0), api.ErrFail)
	reads(t, ahead, 0, 0, filled(0x11))
	is(t, "Erase", ahead.Erase(1), api.OK)
	is(t, "Erase", ahead.Erase(1), api.ErrPower)
	looks(t, ahead, 0, api.Look{Wear: 1, Next: 4, Bad: true})
	looks(t, c, 0, api.Look{Next: 3})
	is(t, "Restart", c.Restart(), api.OK)
	reads(t, c, 0, 0, filled(0x10))
}

// Two chips that were one write to the same places: neither sees what the other one has there.
func TestP24CloneSharesNothing(t *testing.T) {
	var s stream = 7
	for _, n := range []int{0, 1, 2, 3} {
		c := chip(t, nil)
		for page := range n {
			is(t, "Program", c.Program(0, page, s.page()), api.OK)
		}
		d := c.Clone()
		a, b := s.page(), s.page()
		is(t, "Program", c.Program(0, n, a), api.OK)
		is(t, "Program", d.Program(0, n, b), api.OK)
		reads(t, c, 0, n, a)
		reads(t, d, 0, n, b)
		was := tell(c)
		is(t, "Erase", d.Erase(0), api.OK)
		is(t, "Program", d.Program(0, 0, b), api.OK)
		if !tell(c).same(was) {
			t.Error("the clone's operations changed the chip")
		}
	}
}

func TestExample(t *testing.T) {
	var s stream = 8
	p, q := s.page(), s.page()
	c := chip(t, nil, cut(2, 0xff))
	is(t, "Program", c.Program(0, 0, p), api.OK)
	is(t, "Program", c.Program(0, 1, q), api.ErrPower)
	is(t, "Restart", c.Restart(), api.OK)
	reads(t, c, 0, 0, p)
	reads(t, c, 0, 1, erased)
	looks(t, c, 0, api.Look{Next: 2})
	is(t, "Program", c.Program(0, 1, q), api.ErrDirty)
}

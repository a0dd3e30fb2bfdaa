package nand_test

import (
	"bytes"
	"slices"
	"testing"

	"slipway/api"
	"slipway/nand"
)

func TestR5(t *testing.T) {
	for name, c := range map[string]*nand.Chip{"nil": nil, "zero": {}} {
		t.Run(name, func(t *testing.T) {
			if c.Geometry() != (api.Geometry{}) || c.Ops() != 0 || c.On() || c.Clone() != nil {
				t.Error(c.Geometry(), c.Ops(), c.On(), c.Clone())
			}
			for _, block := range []int{-1, 0, 16} {
				p, e := c.Read(block, 0)
				is(t, "Read", e, api.ErrMade)
				l, e := c.Look(block)
				is(t, "Look", e, api.ErrMade)
				if p != (api.Page{}) || l != (api.Look{}) {
					t.Error(p, l)
				}
				is(t, "Program", c.Program(block, 0, filled(1)), api.ErrMade)
				is(t, "Erase", c.Erase(block), api.ErrMade)
				for i := range c.Pages(block) {
					t.Error("Pages", i)
				}
			}
			is(t, "Restart", c.Restart(), api.ErrMade)
			if c.On() || c.Ops() != 0 {
				t.Error(c.On(), c.Ops())
			}
		})
	}
}

// What is handed in is as it was, and may be changed by its owner behind the call.
func TestR3HandedIn(t *testing.T) {
	mask, other := []byte{1, 2, 3, 0x5a}, []byte{0x30, 0x5a}
	bad := []int{4, 2, 0}
	events := []api.Event{
		{At: 1, Kind: api.EvFail, Mask: mask[:3]},
		{At: 2, Kind: api.EvCut, Mask: other[:1]},
		{At: 99, Kind: api.EvFail, Mask: mask},
	}
	c, e := nand.New(small, bad[:2], events[:2]...)
	is(t, "New", e, api.OK)
	is(t, "Program", c.Program(7, 0, filled(0)), api.ErrFail)
	if !bytes.Equal(mask, []byte{1, 2, 3, 0x5a}) || !bytes.Equal(other, []byte{0x30, 0x5a}) || !slices.Equal(bad, []int{4, 2, 0}) {
		t.Error("New or Program wrote to what was handed in")
	}
	for i, ev := range events {
		if ev.At != []int64{1, 2, 99}[i] || ev.Kind != []int{1, 2, 1}[i] || len(ev.Mask) != []int{3, 1, 4}[i] {
			t.Error("New or Program wrote to what was handed in")
		}
	}
	clone := c.Clone()
	other[0], mask[0] = 0xff, 0xff
	bad[0], bad[1] = 7, 7
	events[1] = fail(5)
	events[0] = api.Event{}
	for _, d := range []*nand.Chip{c, clone} {
		looks(t, d, 4, api.Look{Bad: true})
		looks(t, d, 2, api.Look{Bad: true})
		is(t, "Program", d.Program(7, 1, filled(1)), api.ErrPower)
		is(t, "Restart", d.Restart(), api.OK)
		reads(t, d, 7, 0, pageOf(bytes.Repeat([]byte{1, 2, 3}, 96)))
		reads(t, d, 7, 1, filled(0x31))
		is(t, "Program", d.Program(7, 2, filled(1)), api.OK)
	}
}

// An iterator tells what was there when it was asked for.
func TestR3Pages(t *testing.T) {
	c := chip(t, nil)
	is(t, "Program", c.Program(0, 0, filled(1)), api.OK)
	is(t, "Program", c.Program(0, 1, filled(2)), api.OK)
	pages := c.Pages(0)
	want := []api.Page{filled(1), filled(2), erased, erased}
	for range 2 {
		n := 0
		for i, p := range pages {
			if i != n || p != want[i] {
				t.Errorf("page %d", i)
			}
			p.Data[0] ^= 0xff
			if n++; n == 2 {
				break
			}
		}
		if n != 2 {
			t.Errorf("%d pages", n)
		}
		is(t, "Erase", c.Erase(0), api.OK)
		is(t, "Program", c.Program(0, 0, filled(9)), api.OK)
		is(t, "Program", c.Program(0, 3, filled(9)), api.OK)
	}
	// A change in the midst of a range is not told either.
	n := 0
	for i, p := range pages {
		if p != want[i] {
			t.Errorf("page %d", i)
		}
		is(t, "Erase", c.Erase(0), api.OK)
		is(t, "Program", c.Program(0, 3, filled(byte(i))), api.OK)
		n++
	}
	if n != 4 {
		t.Errorf("%d pages", n)
	}
	reads(t, c, 0, 3, filled(3))
}

// What is answered is nobody's else.
func TestR3Answers(t *testing.T) {
	var s stream = 11
	want := s.page()
	c := chip(t, nil)
	is(t, "Program", c.Program(0, 0, want), api.OK)
	p, _ := c.Read(0, 0)
	p.Data[0] ^= 0xff
	p.Oob[31] ^= 0xff
	reads(t, c, 0, 0, want)
}

func TestR6(t *testing.T) {
	run := func() []api.Errno {
		var s stream = 12
		c, _ := nand.New(small, []int{1}, someEvents(&s)...)
		var said []api.Errno
		for range 200 {
			said = append(said, c.Program(s.below(4), s.below(4), s.page()), c.Erase(s.below(4)))
			if s.below(3) == 0 {
				said = append(said, c.Restart())
			}
		}
		return said
	}
	if !slices.Equal(run(), run()) {
		t.Error("the same calls did not answer the same")
	}
}

// A clone in the midst, and the chip itself, go on alike.
func TestR6Clone(t *testing.T) {
	var s stream = 13
	c, _ := nand.New(small, []int{1}, someEvents(&s)...)
	for range 150 {
		d := c.Clone()
		block, page, p := s.below(4), s.below(4), s.page()
		for _, x := range []*nand.Chip{c, d} {
			if p.Data[0]%3 == 0 {
				x.Erase(block)
			} else {
				x.Program(block, page, p)
			}
		}
		if !tell(c).same(tell(d)) {
			t.Fatal("the two went apart")
		}
		if s.below(3) == 0 {
			c.Restart()
		}
	}
}

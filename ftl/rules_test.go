package ftl_test

import (
	"bytes"
	"slices"
	"testing"
	"time"

	"slipway/api"
	"slipway/ftl"
	"slipway/mapjnl"
	"slipway/nand"
	"slipway/plan"
	"slipway/pool"
)

// Whatever is done to the chip behind a disk's back: its calls end, and none panics.
func TestR1BehindItsBack(t *testing.T) {
	for seed := range 60 {
		s := stream(seed * 331)
		r := rigged(t, small, nil, someEvents(&s, 200, 30, 20, api.EvFail, api.EvCut)...).format()
		for range 300 {
			block, number := s.below(16), s.below(4)
			switch s.below(8) {
			case 0:
				r.c.Erase(block)
			case 1:
				var p api.Page
				copy(p.Data[:], s.bytes(api.PageLen))
				r.c.Program(block, number, p)
			case 2:
				r.c.Restart()
			}
			sector := s.below(30) - 1
			r.f.Write(sector, s.bytes(api.PageLen))
			b, e := r.f.Read(sector)
			if (b == nil) != (e != api.OK) {
				t.Fatal("Read", e)
			}
			if plan.Check(r.f.Table()) != api.OK || pool.Check(r.f.Pool()) != api.OK || mapjnl.Check(r.f.State()) != api.OK {
				t.Fatal("P8.6")
			}
			if s.below(40) == 0 {
				r.c.Restart()
				if f, e := ftl.Mount(r.c, 2, 2); e == api.OK {
					r.f = f
				}
			}
		}
	}
}

// Two disks on one chip: neither knows of the other, and no call fails to end.
func TestR1TwoDisks(t *testing.T) {
	for seed := range 20 {
		s := stream(seed * 37)
		c := chip(t, small.g, nil)
		is(t, "Format", ftl.Format(c, 2, 2), api.OK)
		var disks []*ftl.Ftl
		for range 3 {
			f, e := ftl.Mount(c, 2, 2)
			is(t, "Mount", e, api.OK)
			disks = append(disks, f)
		}
		for range 400 {
			f := disks[s.below(3)]
			if e := f.Write(s.below(28), s.bytes(api.PageLen)); e != api.OK && e != api.ErrOnly {
				t.Fatal("Write", e)
			}
			if _, e := f.Read(s.below(28)); e != api.OK && e != api.ErrIo {
				t.Fatal("Read", e)
			}
		}
	}
}

// pages is all pages of a chip.
func pages(c *nand.Chip) []api.Page {
	var l []api.Page
	for block := range c.Geometry().Blocks {
		for _, p := range c.Pages(block) {
			l = append(l, p)
		}
	}
	return l
}

// A call that is refused changes nothing, neither of the disk nor of the chip.
func TestR2Refused(t *testing.T) {
	r := rigged(t, small, nil).format()
	for i := range 100 {
		r.write(i * 5 % 28)
	}
	was, x, p, s, ops := pages(r.c), r.f.Table(), r.f.Pool(), r.f.State(), r.c.Ops()
	r.f.Read(-1)
	r.f.Read(28)
	r.f.Write(-1, content(0, 1))
	r.f.Write(28, content(0, 1))
	r.f.Write(3, nil)
	r.f.Write(3, make([]byte, api.PageLen+1))
	for _, n := range []int{-1, 0, 9} {
		is(t, "Format", ftl.Format(r.c, n, 2), api.ErrArg)
		f, e := ftl.Mount(r.c, n, 2)
		is(t, "Mount", e, api.ErrArg)
		is(t, "Mount", f == nil, true)
	}
	is(t, "Format", ftl.Format(r.c, 8, 8), api.ErrSmall)
	is(t, "operations", r.c.Ops(), ops)
	is(t, "pages", slices.Equal(was, pages(r.c)), true)
	is(t, "Table", plan.Same(x, r.f.Table()), true)
	is(t, "Pool", pool.Same(p, r.f.Pool()), true)
	is(t, "State", mapjnl.Same(s, r.f.State()), true)
	// A mount that finds too few good blocks does nothing to the chip, either.
	few := chip(t, small.g, []int{1, 2, 3})
	_, e := ftl.Mount(few, 2, 2)
	is(t, "Mount", e, api.ErrSmall)
	is(t, "operations", few.Ops(), 0)
}

func TestR3HandedIn(t *testing.T) {
	r := rigged(t, small, nil).format()
	for i := range 200 {
		sector := i * 11 % 28
		r.n++
		want := content(sector, r.n)
		// With room behind its end, so that an append would be seen.
		b := append(bytes.Clone(want), 0xaa, 0xaa)[:api.PageLen]
		is(t, "Write", r.f.Write(sector, b), api.OK)
		is(t, "written to", bytes.Equal(b[:api.PageLen+2], append(bytes.Clone(want), 0xaa, 0xaa)), true)
		for i := range b {
			b[i] ^= 0xff
		}
		r.may[sector] = []int{r.n}
	}
	r.all()
	r.mount().all()
}

func TestR3Answered(t *testing.T) {
	r := rigged(t, small, nil).format()
	for i := range 100 {
		is(t, "Write", r.write(i*11%28), api.OK)
		for _, sector := range []int{i * 11 % 28, 5} {
			for range 2 {
				b, _ := r.f.Read(sector)
				is(t, "Read", bytes.Equal(b, content(sector, r.may[sector][0])), true)
				for i := range b {
					b[i] = 0xaa
				}
			}
		}
		x, p, s := r.f.Table(), r.f.Pool(), r.f.State()
		was, wasPool, wasState := plan.Clone(x), pool.Clone(p), api.MapState{Bad: slices.Clone(s.Bad), Wear: slices.Clone(s.Wear), Seq: s.Seq}
		for i := range x.Data {
			x.Data[i] = 77
		}
		for i := range x.Have {
			x.Have[i] = !x.Have[i]
		}
		for _, l := range x.Logs {
			for i := range l.Pages {
				l.Pages[i] = 77
			}
		}
		for i := range x.Logs {
			x.Logs[i] = api.RandLog{Phys: 77}
		}
		for i := range p.Roles {
			p.Roles[i], p.Wear[i] = 77, 77
			s.Bad[i] = !s.Bad[i]
		}
		is(t, "a list of State is one of Pool", mapjnl.Same(s, api.MapState{Bad: s.Bad, Wear: wasState.Wear, Seq: s.Seq}), true)
		for i := range s.Wear {
			s.Wear[i] = 78
		}
		is(t, "Table", plan.Same(r.f.Table(), was), true)
		is(t, "Pool", pool.Same(r.f.Pool(), wasPool), true)
		is(t, "State", mapjnl.Same(r.f.State(), wasState), true)
	}
	r.all()
}

// Format's own disk, and disks that are not used any more, do nothing to a chip later.
func TestR3Chips(t *testing.T) {
	r := rigged(t, small, nil).format()
	r.write(3)
	old := r.f
	r.mount()
	was := pages(r.c)
	old.Size()
	old.Flush()
	old.Read(3)
	old.Table()
	is(t, "pages", slices.Equal(was, pages(r.c)), true)
	// A clone of the chip goes its own way, and so does the disk on it.
	c := r.c.Clone()
	f, e := ftl.Mount(c, 2, 2)
	is(t, "Mount", e, api.OK)
	is(t, "Write", f.Write(3, content(3, 9)), api.OK)
	is(t, "pages", slices.Equal(was, pages(r.c)), true)
	r.all()
}

// The same calls and events answer the same, and leave the same pages.
func TestR6TheSameAgain(t *testing.T) {
	for seed := range 6 {
		var rigs [2]*rig
		for i := range rigs {
			s := stream(seed)
			r := rigged(t, small, []int{5}, someEvents(&s, 90, 60, 9, api.EvCut, api.EvFail)...).format()
			for range 300 {
				if r.f == nil {
					break
				}
				if r.write(s.below(28)) == api.ErrPower {
					r.mount()
				}
			}
			rigs[i] = r
		}
		a, b := rigs[0], rigs[1]
		is(t, "operations", a.c.Ops(), b.c.Ops())
		is(t, "pages", slices.Equal(pages(a.c), pages(b.c)), true)
		if a.f != nil {
			is(t, "Table", plan.Same(a.f.Table(), b.f.Table()), true)
			is(t, "Pool", pool.Same(a.f.Pool(), b.f.Pool()), true)
			is(t, "State", mapjnl.Same(a.f.State(), b.f.State()), true)
		}
	}
}

// The greatest chip is filled, mounted and read in a time that only near-linear calls can do it in.
func TestTheBound(t *testing.T) {
	sh := shape{g: api.Geometry{Blocks: 256, Pages: 32}, logs: 8, reserve: 0}
	begun := time.Now()
	r := rigged(t, sh, nil).format()
	is(t, "Size", len(r.may), 243*32)
	for sector := 0; sector < len(r.may); sector += 7 {
		is(t, "Write", r.write(sector), api.OK)
	}
	r.mount().all()
	if took := time.Since(begun); took > time.Minute {
		t.Errorf("it took %v", took)
	}
}

package disk_test

import (
	"bytes"
	"slices"
	"testing"

	"slipway/api"
	"slipway/disk"
)

// ask is a write that is asked for.
type ask struct {
	sector int
	data   []byte
}

func (a ask) mayBe(sectors int) bool {
	return a.sector >= 0 && a.sector < sectors && len(a.data) == api.PageLen
}

// asks are writes of which about every fourth may not be.
func asks(s *stream, sectors, n int) []ask {
	list := make([]ask, n)
	for i := range list {
		list[i] = ask{s.below(sectors), s.bytes(api.PageLen)}
		switch s.below(12) {
		case 0:
			list[i].sector = -1 - s.below(3)
		case 1:
			list[i].sector = sectors + s.below(3)
		case 2:
			list[i].data = s.bytes(s.below(2 * api.PageLen))
		}
	}
	return list
}

// behind is the sectors behind the first n of the writes that may be, and these.
func behind(image [][]byte, list []ask, n int) ([][]byte, []ask) {
	image = slices.Clone(image)
	var done []ask
	for _, a := range list {
		if len(done) < n && a.mayBe(len(image)) {
			image[a.sector] = a.data
			done = append(done, a)
		}
	}
	return image, done
}

func notes(list []ask) []noted {
	var l []noted
	for _, a := range list {
		l = append(l, noted{a.sector, string(a.data)})
	}
	return l
}

// The power is cut behind each number of writes in turn.
func TestP95(t *testing.T) {
	for seed := range 6 {
		s := stream(seed*7 + 1)
		start := s.image(1 + s.below(9))
		list := asks(&s, len(start), 60)
		_, all := behind(start, list, len(list))
		for cut := range len(all) + 2 {
			d, _ := disk.Of(start...)
			d.CutAfter(cut)
			n := 0
			for _, a := range list {
				want := api.OK
				switch {
				case !d.On():
					want = api.ErrPower
				case !a.mayBe(len(start)):
					want = api.ErrArg
				case n == cut:
					want = api.ErrPower
				default:
					n++
				}
				writes(t, d, a.sector, a.data, want)
			}
			is(t, "On", d.On(), cut >= len(all))
			image, done := behind(start, list, cut)
			is(t, "Writes", d.Writes(), int64(len(done)))
			is(t, "Log", slices.Equal(logged(d), notes(done)), true)
			d.Restart()
			has(t, d, image)
		}
	}
}

// Cut again and again: between two cuts the writes go on from what was there.
func TestP95AgainAndAgain(t *testing.T) {
	for seed := range 20 {
		s := stream(seed*13 + 5)
		image := s.image(1 + s.below(6))
		d, _ := disk.Of(image...)
		total := 0
		for range 40 {
			list := asks(&s, len(image), 1+s.below(12))
			cut := s.below(10)
			d.CutAfter(cut)
			for _, a := range list {
				d.Write(a.sector, a.data)
			}
			var done []ask
			image, done = behind(image, list, cut)
			total += len(done)
			d.Restart()
			has(t, d, image)
			is(t, "Writes", d.Writes(), int64(total))
		}
	}
}

func TestP96(t *testing.T) {
	for seed := range 40 {
		s := stream(seed)
		d := fresh(t, 1+s.below(30))
		if seed == 0 {
			d = fresh(t, api.MaxSectors)
		}
		for range s.below(200) {
			writes(t, d, s.below(d.Size()), s.bytes(api.PageLen), api.OK)
		}
		image, e := disk.Image(d)
		is(t, "Image", e, api.OK)
		o, e := disk.Of(image...)
		is(t, "Of", e, api.OK)
		is(t, "Same", disk.Same(d, o), true)
		is(t, "Same", disk.Same(o, d), true)
		is(t, "Size", o.Size(), d.Size())
		has(t, o, image)
		for sector, b := range image {
			reads(t, d, sector, b)
		}
		// And the other way: the image of a disk of these sectors is these.
		there := s.image(1 + s.below(30))
		back, _ := disk.Of(there...)
		has(t, back, there)
	}
}

// model is what a disk is, by the words of the chapter and without regard to room.
type model struct {
	image [][]byte
	hurt  []bool
	off   bool
	cut   bool // whether the power is to be cut
	left  int
	done  []ask
}

func (m *model) write(a ask) api.Errno {
	switch {
	case m.off:
		return api.ErrPower
	case !a.mayBe(len(m.image)):
		return api.ErrArg
	case m.cut && m.left == 0:
		m.off = true
		return api.ErrPower
	case m.cut:
		m.left--
	}
	m.image[a.sector], m.hurt[a.sector] = a.data, false
	m.done = append(m.done, a)
	return api.OK
}

func (m *model) clone() *model {
	c := *m
	c.image, c.hurt, c.done = slices.Clone(m.image), slices.Clone(m.hurt), slices.Clone(m.done)
	return &c
}

// pair is a disk, and what it must be.
type pair struct {
	d *disk.RAM
	m *model
}

func begun(s *stream, t *testing.T) pair {
	image := s.image(1 + s.below(5))
	d, e := disk.Of(image...)
	is(t, "Of", e, api.OK)
	return pair{d, &model{image: image, hurt: make([]bool, len(image))}}
}

// step does any one thing to both.
func (p pair) step(t *testing.T, s *stream) {
	t.Helper()
	size := len(p.m.image)
	switch s.below(16) {
	case 0:
		n := s.below(8) - 1
		p.d.CutAfter(n)
		p.m.cut, p.m.left = n >= 0, n
	case 1:
		p.d.Restart()
		p.m.off, p.m.cut = false, false
	case 2:
		sector, want := s.below(size+2)-1, api.ErrArg
		if sector >= 0 && sector < size {
			p.m.hurt[sector], want = true, api.OK
		}
		is(t, "Hurt", p.d.Hurt(sector), want)
	default:
		a := asks(s, size, 1)[0]
		writes(t, p.d, a.sector, a.data, p.m.write(a))
	}
}

// holds is all that the disk tells of itself, but its log.
func (p pair) holds(t *testing.T) {
	t.Helper()
	is(t, "Size", p.d.Size(), len(p.m.image))
	is(t, "On", p.d.On(), !p.m.off)
	is(t, "Writes", p.d.Writes(), int64(len(p.m.done)))
	want := api.OK
	if p.m.off {
		want = api.ErrPower
	}
	is(t, "Flush", p.d.Flush(), want)
	for sector, b := range p.m.image {
		switch {
		case p.m.off:
			fails(t, p.d, sector, api.ErrPower)
		case p.m.hurt[sector]:
			fails(t, p.d, sector, api.ErrIo)
		default:
			reads(t, p.d, sector, b)
		}
	}
}

func (p pair) tells(t *testing.T) {
	t.Helper()
	done := p.m.done[max(0, len(p.m.done)-1024):]
	is(t, "Log", slices.Equal(logged(p.d), notes(done)), true)
}

func TestP92AndP93AnyRow(t *testing.T) {
	for seed := range 30 {
		s := stream(seed*101 + 3)
		p := begun(&s, t)
		for i := range 400 {
			p.step(t, &s)
			p.holds(t)
			if i%20 == 0 {
				p.tells(t)
			}
		}
		p.tells(t)
	}
}

// Clones, and clones of these, go on each in its own way; what is done to one is not seen in another.
func TestP97(t *testing.T) {
	for seed := range 12 {
		s := stream(seed*17 + 2)
		all := []pair{begun(&s, t)}
		// In some of the rows the log has begun anew when it is cloned.
		for range seed % 3 * 700 {
			a := ask{0, numbered(s.below(1000))}
			writes(t, all[0].d, a.sector, a.data, all[0].m.write(a))
		}
		for len(all) < 6 {
			from := all[s.below(len(all))]
			all = append(all, pair{from.d.Clone(), from.m.clone()})
			for range 40 {
				all[s.below(len(all))].step(t, &s)
				for _, p := range all {
					p.holds(t)
				}
			}
			for _, p := range all {
				p.tells(t)
			}
		}
	}
}

// Each thing that can be done to a disk, done to a clone and to the disk itself.
func TestP97OneByOne(t *testing.T) {
	full := func() *disk.RAM {
		d := fresh(t, 3)
		for i := range 1100 {
			writes(t, d, i%3, numbered(i), api.OK)
		}
		return d
	}
	deeds := map[string]func(*disk.RAM){
		"written": func(d *disk.RAM) { writes(t, d, 1, fill(9), api.OK) },
		"hurt":    func(d *disk.RAM) { is(t, "Hurt", d.Hurt(1), api.OK) },
		"cut":     func(d *disk.RAM) { d.CutAfter(0); writes(t, d, 1, fill(9), api.ErrPower) },
		"to cut":  func(d *disk.RAM) { d.CutAfter(0) },
		"started": func(d *disk.RAM) { d.CutAfter(0); d.Write(1, fill(9)); d.Restart() },
		"filled": func(d *disk.RAM) {
			for range 1024 {
				writes(t, d, 1, fill(9), api.OK)
			}
		},
	}
	for name, deed := range deeds {
		for _, swapped := range []bool{false, true} {
			d := full()
			done, left := d.Clone(), d
			if swapped {
				done, left = d, d.Clone()
			}
			deed(done)
			p := pair{left, &model{image: [][]byte{numbered(1098), numbered(1099), numbered(1097)}, hurt: make([]bool, 3)}}
			for i := range 1100 {
				p.m.done = append(p.m.done, ask{i % 3, numbered(i)})
			}
			t.Run(name, func(t *testing.T) {
				p.holds(t)
				p.tells(t)
				for range 5 {
					a := ask{2, fill(7)}
					writes(t, left, a.sector, a.data, p.m.write(a))
				}
				p.holds(t)
				p.tells(t)
			})
		}
	}
	// A disk whose power is gone, and its clone that is started again.
	d := off(t)
	c := d.Clone()
	c.Restart()
	is(t, "On", c.On(), true)
	is(t, "On", d.On(), false)
	b, e := c.Read(1)
	if e != api.OK || !bytes.Equal(b, fill(1)) {
		t.Error(b, e)
	}
	fails(t, d, 1, api.ErrPower)
}

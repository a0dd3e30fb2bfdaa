package ftl

import (
	"slipway/api"
	"slipway/nand"
	"slipway/pool"
	"slipway/scan"
)

// stand is the disk as a survey found it, and the logical blocks that have no block of their own: what they stand in is held as logs.
func stand(c *nand.Chip, s survey, logical, logs int) (*Ftl, []int) {
	g := c.Geometry()
	f := &Ftl{
		chip:   c,
		book:   book{block: none, next: g.Pages, gen: s.gen},
		erased: make([]bool, g.Blocks),
		weak:   make([]bool, g.Blocks),
		last:   s.state.Seq,
		left:   s.newest(g.Pages, logical),
	}
	f.pool, _ = pool.New(g.Blocks, s.bad()...)
	f.pool, _ = pool.Wears(f.pool, s.state.Wear...)
	t, loose, _ := scan.Table(g.Pages, logical, logs, f.left)
	f.adopt(t)
	for block := range scan.Needed(f.left) {
		if f.pool.Roles[block] == api.RoFree {
			f.take(block, api.RoRand)
		}
	}
	if block := s.book(); block != none && f.pool.Roles[block] == api.RoFree {
		f.take(block, api.RoMap)
		f.book.block = block
	}
	return f, loose
}

// adopt takes over a table without logs.
func (f *Ftl) adopt(t api.Table) {
	f.table = t
	for _, phys := range t.Data {
		if phys != none {
			f.pool.Roles[phys] = api.RoData
		}
	}
}

// settle gives all logical blocks blocks of their own, as far as there are any.
func (f *Ftl) settle(s survey, loose []int) api.Errno {
	e := f.tidy(s, loose)
	t, _, _ := scan.Table(f.table.Pages, f.table.Logical, f.table.K, f.left)
	f.adopt(t)
	for block := range pool.All(f.pool, api.RoRand) {
		f.pool.Roles[block] = api.RoFree
	}
	if e == api.OK {
		f.left = nil
	}
	return e
}

// tidy writes a checkpoint, and sees to it that nothing stands where it is not needed.
func (f *Ftl) tidy(s survey, loose []int) api.Errno {
	// Ahead of all else: without it no block could be put out of use lastingly.
	if e := f.checkpoint(); e != api.OK {
		return e
	}
	if e := f.keepUp(); e != api.OK {
		return e
	}
	if e := f.sweep(s); e != api.OK {
		return e
	}
	return f.foldLoose(loose)
}

// sweep erases free blocks in which something stands. A copy there may be as new as the one that is used, and older: mounts would find it again and again, and with many such copies there would be no block left to fold into.
func (f *Ftl) sweep(s survey) api.Errno {
	for block, found := range s.found {
		if len(found) == 0 || f.erased[block] || f.pool.Roles[block] != api.RoFree {
			continue
		}
		if e := f.release(block); e != api.OK {
			return e
		}
	}
	return api.OK
}

// foldLoose folds logical blocks from where their pages were found, and lets blocks go in which nothing is needed any more.
func (f *Ftl) foldLoose(loose []int) api.Errno {
	needs := make([]int, len(f.pool.Roles))
	for _, place := range f.left {
		if place.Phys != none {
			needs[place.Phys]++
		}
	}
	for _, block := range loose {
		copies := f.copiesLeft(block)
		phys, e := f.gather(block, copies, least)
		if e != api.OK {
			return e
		}
		f.take(phys, api.RoData)
		var free []int
		for _, c := range copies {
			f.left[block*f.table.Pages+c.Page] = api.Place{Phys: phys, Page: c.Page}
			needs[c.From.Phys]--
			if needs[c.From.Phys] == 0 {
				free = append(free, c.From.Phys)
			}
		}
		if e := f.release(free...); e != api.OK {
			return e
		}
	}
	return api.OK
}

// copiesLeft is what brings a logical block together from where its pages were found.
func (f *Ftl) copiesLeft(block int) []api.Copy {
	first := block * f.table.Pages
	var copies []api.Copy
	for number, place := range f.left[first : first+f.table.Pages] {
		if place.Phys != none {
			copies = append(copies, api.Copy{From: place, Page: number})
		}
	}
	return copies
}

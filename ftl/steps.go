package ftl

import (
	"slices"

	"slipway/api"
	"slipway/plan"
	"slipway/pool"
)

// put writes a sector: all that it needs, step by step.
func (f *Ftl) put(sector int, b []byte) api.Errno {
	for {
		if e := f.keepUp(); e != api.OK {
			return e
		}
		s, e := plan.Want(f.table, sector)
		if e != api.OK {
			return e
		}
		if done, e := f.do(s, sector, b); done || e != api.OK {
			return e
		}
	}
}

// do does a step, and tells whether the sector stands then.
func (f *Ftl) do(s api.Step, sector int, b []byte) (bool, api.Errno) {
	switch s.Kind {
	case api.StSeq, api.StRand:
		return f.putPage(s, sector, b)
	case api.StOpenSeq:
		return false, f.open(s, api.RoSeq)
	case api.StOpenRand:
		return false, f.open(s, api.RoRand)
	case api.StPartial:
		if e := f.copyRest(); e != api.OK {
			return false, f.afterFailure(s, e)
		}
		fallthrough
	case api.StSwitch:
		return false, f.switchOver()
	case api.StDrop:
		return false, f.drop()
	default: // api.StFull, api.StVictim
		return false, f.merge(s.Block)
	}
}

// open makes a fresh block a log.
func (f *Ftl) open(s api.Step, role int) api.Errno {
	phys, e := f.fresh(least)
	if e != api.OK {
		return e
	}
	t, e := plan.Open(f.table, s, phys)
	if e != api.OK {
		return e
	}
	f.table = t
	f.take(phys, role)
	return api.OK
}

// putPage appends a sector to a log, and tells whether it stands there.
func (f *Ftl) putPage(s api.Step, sector int, b []byte) (bool, api.Errno) {
	t, place, e := plan.Put(f.table, s, sector)
	if e != api.OK {
		return false, e
	}
	if e := f.programNew(place, api.PgLog, sector, b); e != api.OK {
		return false, f.afterFailure(s, e)
	}
	f.table = t
	return true, api.OK
}

// afterFailure gets on when a step has an error: a log that is weak takes no more pages. Other errors stay.
func (f *Ftl) afterFailure(s api.Step, e api.Errno) api.Errno {
	switch {
	case e != api.ErrFail:
		return e
	case s.Kind == api.StRand:
		f.skipAll(s)
		return api.OK
	default:
		return f.merge(s.Block)
	}
}

// skipAll leaves no room in the last random log.
func (f *Ftl) skipAll(s api.Step) {
	for {
		t, e := plan.Skip(f.table, s)
		if e != api.OK {
			return
		}
		f.table = t
	}
}

// copyRest copies what the sequential log lacks behind its pages.
func (f *Ftl) copyRest() api.Errno {
	q := f.table.Seq
	for c := range plan.Rest(f.table) {
		to := api.Place{Phys: q.Phys, Page: c.Page}
		if e := f.programCopy(c.From, to, q.Logical*f.table.Pages+c.Page); e != api.OK {
			return e
		}
	}
	return api.OK
}

// switchOver makes the sequential log its block's data.
func (f *Ftl) switchOver() api.Errno {
	phys := f.table.Seq.Phys
	t, free, e := plan.Switched(f.table)
	if e != api.OK {
		return e
	}
	f.table = t
	// Not given back and taken again: it was not erased.
	f.pool.Roles[phys] = api.RoData
	return f.release(free...)
}

// drop lets the oldest random log go.
func (f *Ftl) drop() api.Errno {
	t, free, e := plan.Dropped(f.table)
	if e != api.OK {
		return e
	}
	f.table = t
	return f.release(free)
}

// merge folds a logical block as a write needs it, and then what rests, if that is due.
func (f *Ftl) merge(block int) api.Errno {
	if e := f.fold(block, least); e != api.OK {
		return e
	}
	return f.level()
}

// level folds data that rests into a block that is worn.
func (f *Ftl) level() api.Errno {
	rests, _, ok := pool.Cold(f.pool, wearGap)
	if !ok {
		return api.OK
	}
	e := f.fold(slices.Index(f.table.Data, rests), worn)
	if e == api.ErrNone {
		// The worn blocks went out of use instead.
		return api.OK
	}
	return e
}

// fold brings a logical block together in one block.
func (f *Ftl) fold(block int, which choose) api.Errno {
	phys, e := f.gather(block, slices.Collect(plan.Fold(f.table, block)), which)
	if e != api.OK {
		return e
	}
	t, free, e := plan.Folded(f.table, block, phys)
	if e != api.OK {
		return e
	}
	f.table = t
	f.take(phys, api.RoData)
	return f.release(free...)
}

// gather copies pages of a logical block into a fresh block, and is that block.
func (f *Ftl) gather(block int, copies []api.Copy, which choose) (int, api.Errno) {
anew:
	for {
		phys, e := f.fresh(which)
		if e != api.OK {
			return 0, e
		}
		for _, c := range copies {
			to := api.Place{Phys: phys, Page: c.Page}
			switch e := f.programCopy(c.From, to, block*f.table.Pages+c.Page); e {
			case api.OK:
			case api.ErrFail:
				f.retire(phys)
				if e := f.keepUp(); e != api.OK {
					return 0, e
				}
				continue anew
			default:
				return 0, e
			}
		}
		return phys, api.OK
	}
}

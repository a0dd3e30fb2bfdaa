package ftl

import (
	"slipway/api"
	"slipway/page"
	"slipway/pool"
)

// wearGap is by how many erases a free block is worn more than one whose data rests, if they are to change places.
const wearGap = 16

// choose says which free block is to be taken, or that there is none.
type choose func(p api.Pool) (int, api.Errno)

// least is the block that any use takes: without one there can be no more writes.
func least(p api.Pool) (int, api.Errno) {
	block, ok := pool.Choose(p)
	if !ok {
		return 0, api.ErrOnly
	}
	return block, api.OK
}

// worn is the block that data should rest in, if there is one.
func worn(p api.Pool) (int, api.Errno) {
	_, block, ok := pool.Cold(p, wearGap)
	if !ok {
		return 0, api.ErrNone
	}
	return block, api.OK
}

// fresh is an erased block. It stays free till something in it is used, so no other one may be asked for till then.
func (f *Ftl) fresh(which choose) (int, api.Errno) {
	for {
		block, e := f.tryFresh(which)
		if e != api.ErrFail {
			return block, e
		}
		if e := f.keepUp(); e != api.OK {
			return 0, e
		}
	}
}

// tryFresh is an erased block; with ErrFail one was put out of use instead.
func (f *Ftl) tryFresh(which choose) (int, api.Errno) {
	block, e := which(f.pool)
	if e == api.OK && !f.erased[block] {
		e = f.wipe(block)
	}
	if e != api.OK {
		return 0, e
	}
	return block, api.OK
}

// wipe erases a block; with ErrFail it is out of use.
func (f *Ftl) wipe(block int) api.Errno {
	switch f.chip.Erase(block) {
	case api.OK:
	case api.ErrPower:
		return api.ErrPower
	default:
		f.retire(block)
		return api.ErrFail
	}
	f.pool, _ = pool.Erased(f.pool, block)
	f.erased[block] = true
	f.book.note(api.MapRecord{Kind: api.MrWear, Block: block, Value: f.pool.Wear[block]})
	return api.OK
}

// retire puts a block out of use.
func (f *Ftl) retire(block int) {
	f.pool, _ = pool.Retire(f.pool, block)
	f.book.note(api.MapRecord{Kind: api.MrBad, Block: block})
}

// take takes a free block for a role.
func (f *Ftl) take(block, role int) {
	f.pool, _ = pool.Take(f.pool, block, role)
}

// release lets blocks go, and keeps the records up with it.
func (f *Ftl) release(blocks ...int) api.Errno {
	if e := f.letGo(blocks...); e != api.OK {
		return e
	}
	return f.keepUp()
}

// letGo frees blocks that are not used any more.
func (f *Ftl) letGo(blocks ...int) api.Errno {
	// All of them ahead of the first erase: if the power goes there, none keeps a role in which it is not used.
	for _, block := range blocks {
		f.pool.Roles[block] = api.RoFree
	}
	for _, block := range blocks {
		if f.weak[block] {
			f.retire(block)
		} else if f.wipe(block) == api.ErrPower {
			return api.ErrPower
		}
	}
	return api.OK
}

// number hands out the next sequence number.
func (f *Ftl) number() (int64, api.Errno) {
	if f.last == api.MaxSeq {
		return 0, api.ErrOnly
	}
	f.last++
	return f.last, api.OK
}

// program puts a page on the chip; with ErrFail its block is weak.
func (f *Ftl) program(at api.Place, h api.Header, data []byte) api.Errno {
	p, e := page.Encode(h, data)
	if e != api.OK {
		return e
	}
	switch f.chip.Program(at.Phys, at.Page, p) {
	case api.OK:
		return api.OK
	case api.ErrPower:
		return api.ErrPower
	}
	f.weak[at.Phys] = true
	return api.ErrFail
}

// programNew puts a page on the chip that is no copy.
func (f *Ftl) programNew(at api.Place, kind, logical int, data []byte) api.Errno {
	n, e := f.number()
	if e != api.OK {
		return e
	}
	return f.program(at, api.Header{Kind: kind, Page: logical, Seq: n, Stamp: n}, data)
}

// programCopy puts a copy of a logical page on the chip.
func (f *Ftl) programCopy(from, to api.Place, logical int) api.Errno {
	h, data, e := f.page(from, logical)
	if e == api.ErrIo {
		// What is lost stays lost, and is told by whoever reads it: its place in the new block stays empty.
		return api.OK
	}
	if e != api.OK {
		return e
	}
	n, e := f.number()
	if e != api.OK {
		return e
	}
	return f.program(to, api.Header{Kind: api.PgData, Page: logical, Seq: h.Seq, Stamp: n}, data)
}

// page is a logical page that stands at a place.
func (f *Ftl) page(at api.Place, logical int) (api.Header, []byte, api.Errno) {
	p, e := f.chip.Read(at.Phys, at.Page)
	if e != api.OK {
		return api.Header{}, nil, e
	}
	h, data, e := page.Decode(p)
	// A page that is another one, or that has a number which was never handed out, is none that was put there.
	if e != api.OK || h.Kind == api.PgAnchor || h.Page != logical || h.Stamp > f.last {
		return api.Header{}, nil, api.ErrIo
	}
	return h, data, api.OK
}

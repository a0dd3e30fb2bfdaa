package ftl

import (
	"slices"

	"slipway/api"
	"slipway/mapjnl"
)

// manyRecords is how many records are not left waiting: what a step adds to fewer ones still fits into a page.
const manyRecords = api.MaxRecords - 8

// book is where records are kept on the chip, and those that wait to be.
type book struct {
	block   int // none: there is no whole checkpoint
	next    int // the first page that is not programmed
	gen     int64
	waiting []api.MapRecord
}

func (b *book) note(r api.MapRecord) {
	b.waiting = append(b.waiting, r)
}

// isDue tells whether records have to be written now.
func (b *book) isDue() bool {
	return len(b.waiting) >= manyRecords ||
		slices.ContainsFunc(b.waiting, func(r api.MapRecord) bool { return r.Kind == api.MrBad })
}

// keepUp writes the records that are due. It may take a block: none may be in the making.
func (f *Ftl) keepUp() api.Errno {
	for f.book.isDue() {
		e := f.writeRecords()
		if e == api.ErrFull || e == api.ErrFail {
			e = f.checkpoint()
		}
		if e != api.OK {
			return e
		}
	}
	return api.OK
}

// writeRecords appends a page of records to the book; with ErrFull there is no room.
func (f *Ftl) writeRecords() api.Errno {
	if f.book.next >= f.table.Pages {
		return api.ErrFull
	}
	n := min(len(f.book.waiting), api.MaxRecords)
	p, e := mapjnl.Records(f.book.gen, f.book.waiting[:n]...)
	if e != api.OK {
		return e
	}
	if e := f.writePages(f.book.block, f.book.next, p); e != api.OK {
		return e
	}
	f.book.next++
	f.book.waiting = slices.Clone(f.book.waiting[n:])
	return api.OK
}

// checkpoint begins the book anew in a fresh block, and lets the old one go.
func (f *Ftl) checkpoint() api.Errno {
	for {
		block, e := f.tryFresh(least)
		if e == api.OK {
			e = f.writeCheckpoint(block)
		}
		switch e {
		case api.OK:
			return f.moveBook(block)
		case api.ErrFail:
			// A block went out of use: the next checkpoint tells that, too.
		default:
			return e
		}
	}
}

// writeCheckpoint writes all that is known into a block; with ErrFail that is out of use.
func (f *Ftl) writeCheckpoint(block int) api.Errno {
	// The greatest one there may be is taken again: of two such books the one with the greater numbers is the newer.
	f.book.gen = min(f.book.gen+1, api.MaxGen)
	pages, e := mapjnl.Checkpoint(f.State(), f.book.gen)
	if e != api.OK {
		return e
	}
	e = f.writePages(block, 0, pages...)
	if e == api.ErrFail {
		f.retire(block)
	}
	return e
}

// moveBook goes on in a block in which a checkpoint stands whole.
func (f *Ftl) moveBook(block int) api.Errno {
	old := f.book.block
	f.take(block, api.RoMap)
	f.book.block = block
	f.book.next = mapjnl.Parts(len(f.pool.Roles))
	f.book.waiting = nil
	if old == none {
		return api.OK
	}
	return f.letGo(old)
}

// writePages programs pages of the book from a page of a block on.
func (f *Ftl) writePages(block, first int, pages ...api.MapPage) api.Errno {
	for i, p := range pages {
		b, e := mapjnl.Bytes(p)
		if e != api.OK {
			return e
		}
		at := api.Place{Phys: block, Page: first + i}
		if e := f.programNew(at, api.PgAnchor, 0, b); e != api.OK {
			return e
		}
	}
	return api.OK
}

package ftl_test

import (
	"bytes"
	"fmt"
	"math"
	"slices"
	"testing"

	"slipway/api"
	"slipway/ftl"
	"slipway/mapjnl"
	"slipway/nand"
	"slipway/page"
	"slipway/plan"
	"slipway/pool"
)

// It is an api.Disk.
var _ api.Disk = (*ftl.Ftl)(nil)

var (
	cutAt  = func(at int64) api.Event { return api.Event{At: at, Kind: api.EvCut, Mask: []byte{0x5a, 0x0f}} }
	failAt = func(at int64) api.Event { return api.Event{At: at, Kind: api.EvFail, Mask: []byte{0x5a, 0x0f}} }
)

func chip(t *testing.T, g api.Geometry, bad []int, events ...api.Event) *nand.Chip {
	t.Helper()
	c, e := nand.New(g, bad, events...)
	if e != api.OK {
		t.Fatal("New", e)
	}
	return c
}

// unplug takes a chip's power away by an operation that is none of the disk's; the event must be at the next one.
func unplug(t *testing.T, c *nand.Chip, block int) {
	t.Helper()
	if e := c.Erase(block); e != api.ErrPower || c.On() {
		t.Fatal("the power did not go", e)
	}
}

// whole is all whole pages of a chip that the chip does not call bad.
func whole(c *nand.Chip) []api.Found {
	var l []api.Found
	for block := range c.Geometry().Blocks {
		if look, _ := c.Look(block); look.Bad {
			continue
		}
		for number, p := range c.Pages(block) {
			if h, _, e := page.Decode(p); e == api.OK {
				l = append(l, api.Found{At: api.Place{Phys: block, Page: number}, H: h})
			}
		}
	}
	return l
}

func TestP81Sectors(t *testing.T) {
	g := small.g
	n, e := ftl.Sectors(g, 2, 2)
	is(t, "the example", n, 28)
	is(t, "the example", e, api.OK)
	numbers := []int{math.MinInt, -1, 0, 1, 2, 7, 8, 9, 10, 11, 12, 15, 16, 17, 255, 256, 257, math.MaxInt}
	for _, g := range []api.Geometry{{}, {Blocks: 15, Pages: 4}, {Blocks: 16, Pages: 3}, {Blocks: 65, Pages: 4}, g, {Blocks: 64, Pages: 4}, {Blocks: 65, Pages: 5}, {Blocks: 256, Pages: 32}, {Blocks: 257, Pages: 32}, {Blocks: 16, Pages: 33}} {
		for _, logs := range numbers {
			for _, reserve := range numbers {
				blocks, want := pool.Capacity(g, 0, logs, reserve)
				n, e := ftl.Sectors(g, logs, reserve)
				if e != want || n != blocks*g.Pages {
					t.Errorf("Sectors(%v, %d, %d): %d, %d", g, logs, reserve, n, e)
				}
			}
		}
	}
	// Worked out by hand: the least and the greatest disk, and where two errors apply.
	for _, x := range []struct {
		g             api.Geometry
		logs, reserve int
		n             int
		e             api.Errno
	}{
		{g, 8, 2, 4, api.OK},
		{g, 8, 3, 0, api.ErrSmall},
		{g, 1, 0, 40, api.OK},
		{api.Geometry{Blocks: 256, Pages: 32}, 1, 0, 250 * 32, api.OK},
		{g, 0, 0, 0, api.ErrArg},
		{g, 9, 17, 0, api.ErrArg},
		{g, 8, 16, 0, api.ErrSmall},
		{g, 9, 16, 0, api.ErrArg},
		{api.Geometry{Blocks: 15, Pages: 4}, 0, -1, 0, api.ErrGeometry},
	} {
		n, e := ftl.Sectors(x.g, x.logs, x.reserve)
		if n != x.n || e != x.e {
			t.Errorf("%v: %d, %d", x, n, e)
		}
	}
}

// both calls Format and Mount, each with a chip of its own, and holds what they answer against want.
func both(t *testing.T, name string, some func() *nand.Chip, logs, reserve int, want api.Errno) {
	t.Helper()
	is(t, "Format "+name, ftl.Format(some(), logs, reserve), want)
	f, e := ftl.Mount(some(), logs, reserve)
	is(t, "Mount "+name, e, want)
	is(t, "a disk of Mount "+name, f != nil, want == api.OK)
}

func TestP81ErrorsInOrder(t *testing.T) {
	on := func() *nand.Chip { return chip(t, small.g, nil) }
	off := func() *nand.Chip {
		c := chip(t, small.g, []int{0, 1, 2}, cutAt(1))
		unplug(t, c, 5)
		return c
	}
	for name, some := range map[string]func() *nand.Chip{
		"of nil":                   func() *nand.Chip { return nil },
		"of one that no call made": func() *nand.Chip { return new(nand.Chip) },
	} {
		both(t, name, some, 2, 2, api.ErrMade)
		both(t, name+", wrong numbers", some, 0, -1, api.ErrMade)
	}
	for _, n := range []int{math.MinInt, -1, 0, 9, math.MaxInt} {
		both(t, fmt.Sprint("logs ", n), on, n, 2, api.ErrArg)
		both(t, fmt.Sprint("logs without power ", n), off, n, 2, api.ErrArg)
	}
	for _, n := range []int{math.MinInt, -1, 17, math.MaxInt} {
		both(t, fmt.Sprint("reserve ", n), on, 2, n, api.ErrArg)
		both(t, fmt.Sprint("reserve without power ", n), off, 2, n, api.ErrArg)
	}
	both(t, "no room", on, 2, 9, api.ErrSmall)
	both(t, "no room, without power", off, 2, 9, api.ErrSmall)
	both(t, "the least room", on, 2, 8, api.OK)
	both(t, "without power", off, 2, 3, api.ErrPower)
	both(t, "without power, too many bad blocks", off, 2, 2, api.ErrPower)
}

// As many bad blocks as the reserve, and one more; whoever says that they are bad.
func TestP81TooManyBadBlocks(t *testing.T) {
	for reserve := range 9 {
		for bad := range 11 {
			want := api.OK
			if bad > reserve {
				want = api.ErrSmall
			}
			blocks := []int{0, 3, 5, 7, 8, 9, 10, 12, 14, 15}[:bad]
			both(t, fmt.Sprint("bad ", bad, " of ", reserve), func() *nand.Chip { return chip(t, small.g, blocks) }, 2, reserve, want)
			// Erases of Format that fail.
			var events []api.Event
			for i := range bad {
				events = append(events, failAt(int64(i+1)))
			}
			is(t, "Format, erases that fail", ftl.Format(chip(t, small.g, nil, events...), 2, reserve), want)
			// Records: Format erases them, Mount heeds them.
			recorded := func() *nand.Chip {
				c := chip(t, small.g, nil)
				var l []api.MapRecord
				for _, block := range blocks {
					l = append(l, api.MapRecord{Kind: api.MrBad, Block: block})
				}
				lay(t, c, api.Place{Phys: 2}, api.Header{Kind: api.PgAnchor, Seq: 1, Stamp: 1}, records(t, l...))
				return c
			}
			_, e := ftl.Mount(recorded(), 2, reserve)
			is(t, "Mount of records", e, want)
			is(t, "Format of records", ftl.Format(recorded(), 2, reserve), api.OK)
		}
	}
}

// Both ways of being bad count, a block that is bad twice but once.
func TestP81BadInBothWays(t *testing.T) {
	some := func(block int) *nand.Chip {
		c := chip(t, small.g, []int{4})
		lay(t, c, api.Place{Phys: 2}, api.Header{Kind: api.PgAnchor, Seq: 1, Stamp: 1}, records(t, api.MapRecord{Kind: api.MrBad, Block: block}))
		return c
	}
	_, e := ftl.Mount(some(4), 2, 1)
	is(t, "the same one", e, api.OK)
	_, e = ftl.Mount(some(5), 2, 1)
	is(t, "another one", e, api.ErrSmall)
	f, e := ftl.Mount(some(5), 2, 2)
	is(t, "another one", e, api.OK)
	is(t, "bad blocks", fmt.Sprint(slices.Collect(pool.All(f.Pool(), api.RoBad))), "[4 5]")
}

func records(t *testing.T, l ...api.MapRecord) []byte {
	t.Helper()
	p, e := mapjnl.Records(0, l...)
	is(t, "Records", e, api.OK)
	b, e := mapjnl.Bytes(p)
	is(t, "Bytes", e, api.OK)
	return b
}

// lay programs a page as it is told.
func lay(t *testing.T, c *nand.Chip, at api.Place, h api.Header, data []byte) {
	t.Helper()
	p, e := page.Encode(h, data)
	if e != api.OK {
		t.Fatal("Encode", e)
	}
	if e := c.Program(at.Phys, at.Page, p); e != api.OK {
		t.Fatal("Program", e)
	}
}

// Format leaves nothing of what was there, and erases no bad block.
func TestP81FormatErasesAll(t *testing.T) {
	r := rigged(t, small, []int{3}).format()
	for i := range 200 {
		r.write(i * 5 % 28)
	}
	wear := make([]int64, r.g.Blocks)
	for block := range wear {
		l, _ := r.c.Look(block)
		wear[block] = l.Wear
	}
	is(t, "Format", ftl.Format(r.c, 2, 2), api.OK)
	for block := range wear {
		l, _ := r.c.Look(block)
		if isBad := block == 3; isBad != l.Bad || isBad != (l.Wear == wear[block]) {
			t.Errorf("block %d: %v", block, l)
		}
	}
	for sector := range r.may {
		r.may[sector] = []int{0}
	}
	r.mount()
	for _, f := range whole(r.c) {
		if f.H.Kind != api.PgAnchor {
			t.Errorf("%v is still there", f)
		}
	}
	// Also what a block has that a record called bad.
	c := chip(t, small.g, nil)
	lay(t, c, api.Place{Phys: 6}, api.Header{Kind: api.PgLog, Page: 5, Seq: 1, Stamp: 1}, content(5, 1))
	lay(t, c, api.Place{Phys: 2}, api.Header{Kind: api.PgAnchor, Seq: 2, Stamp: 2}, records(t, api.MapRecord{Kind: api.MrBad, Block: 6}))
	is(t, "Format", ftl.Format(c, 2, 0), api.OK)
	f, e := ftl.Mount(c, 2, 0)
	is(t, "Mount", e, api.OK)
	if b, e := f.Read(5); e != api.OK || !bytes.Equal(b, content(5, 0)) {
		t.Error("Read", e)
	}
}

// A chip that was never formatted is an empty disk, too.
func TestP81MountOfAnErasedChip(t *testing.T) {
	rigged(t, small, nil).mount().all()
}

// The power goes at each operation of Format and of Mount.
func TestP81CutAtEach(t *testing.T) {
	for at := int64(1); ; at++ {
		c := chip(t, small.g, []int{3}, cutAt(at))
		if e := ftl.Format(c, 2, 2); e == api.OK {
			// All 15 blocks, and a checkpoint in an erased block.
			if at != 18 {
				t.Errorf("%d operations", at-1)
			}
			break
		} else if e != api.ErrPower || c.On() {
			t.Fatal("Format", at, e)
		}
		is(t, "Format without power", ftl.Format(c, 2, 2), api.ErrPower)
		is(t, "Restart", c.Restart(), api.OK)
		_, e := ftl.Mount(c.Clone(), 2, 2)
		is(t, "Mount", e, api.OK)
		is(t, "Format again", ftl.Format(c, 2, 2), api.OK)
	}
	base := rigged(t, small, []int{3}).format()
	for i := range 60 {
		base.write(i * 5 % 28)
	}
	was := base.c.Ops()
	base.mount()
	took := base.c.Ops() - was
	if took < 20 {
		t.Fatalf("but %d operations", took)
	}
	for at := was + 1; at <= was+took; at++ {
		r := rigged(t, small, []int{3}, cutAt(at)).format()
		for i := range 60 {
			r.write(i * 5 % 28)
		}
		f, e := ftl.Mount(r.c, 2, 2)
		is(t, "Mount", e, api.ErrPower)
		is(t, "a disk", f == nil, true)
		is(t, "On", r.c.On(), false)
		f, e = ftl.Mount(r.c, 2, 2)
		is(t, "Mount without power", e, api.ErrPower)
		is(t, "a disk", f == nil, true)
		r.mount().all()
	}
}

// Blocks that go out of use during a mount make it read-only at worst, and what can be read is right.
func TestP81ReadOnlyAlready(t *testing.T) {
	isOnly, isNot := 0, 0
	for first := range int64(40) {
		s := shape{g: small.g, logs: 2, reserve: 1}
		base := rigged(t, s, nil).format()
		for i := range 70 {
			base.write(i * 5 % len(base.may))
		}
		var events []api.Event
		for at := base.c.Ops() + 1 + first; at < base.c.Ops()+400; at++ {
			events = append(events, failAt(at))
		}
		r := rigged(t, s, nil, events...).format()
		for i := range 70 {
			r.write(i * 5 % len(r.may))
		}
		r.mount()
		r.all()
		if !r.f.Only() {
			isNot++
			continue
		}
		isOnly++
		is(t, "Write", r.f.Write(0, content(0, 1)), api.ErrOnly)
		is(t, "Flush", r.f.Flush(), api.OK)
		r.all()
	}
	if isOnly < 10 || isNot < 1 {
		t.Errorf("%d were read-only, %d were not", isOnly, isNot)
	}
}

func TestP82NotMade(t *testing.T) {
	for name, f := range map[string]*ftl.Ftl{"nil": nil, "zero": new(ftl.Ftl)} {
		is(t, name+" Size", f.Size(), 0)
		is(t, name+" Only", f.Only(), false)
		for _, sector := range []int{math.MinInt, -1, 0, 1, math.MaxInt} {
			b, e := f.Read(sector)
			is(t, name+" Read", e, api.ErrMade)
			is(t, name+" Read", b == nil, true)
			is(t, name+" Write", f.Write(sector, content(0, 1)), api.ErrMade)
			is(t, name+" Write", f.Write(sector, nil), api.ErrMade)
		}
		is(t, name+" Flush", f.Flush(), api.ErrMade)
		x := f.Table()
		is(t, name+" Table", x.Pages == 0 && x.Logical == 0 && x.K == 0 && x.Data == nil && x.Have == nil && x.Seq == api.SeqLog{} && x.Logs == nil, true)
		p, s := f.Pool(), f.State()
		is(t, name+" Pool", p.Roles == nil && p.Wear == nil, true)
		is(t, name+" State", s.Bad == nil && s.Wear == nil && s.Seq == 0, true)
	}
}

func TestP82Edges(t *testing.T) {
	r := rigged(t, small, nil).format()
	is(t, "Size", r.f.Size(), 28)
	r.all()
	for _, sector := range []int{math.MinInt, -1, 28, 29, math.MaxInt} {
		b, e := r.f.Read(sector)
		is(t, "Read", e, api.ErrArg)
		is(t, "Read", b == nil, true)
		is(t, "Write", r.f.Write(sector, content(0, 1)), api.ErrArg)
		is(t, "Write", r.f.Write(sector, nil), api.ErrArg)
	}
	for _, b := range [][]byte{nil, {}, make([]byte, 1), make([]byte, api.PageLen-1), make([]byte, api.PageLen+1), make([]byte, 2*api.PageLen)} {
		is(t, "Write", r.f.Write(0, b), api.ErrArg)
		is(t, "Write", r.f.Write(28, b), api.ErrArg)
	}
	r.all()
	is(t, "operations", r.c.Ops(), rigged(t, small, nil).format().c.Ops())
	is(t, "Write 0", r.write(0), api.OK)
	is(t, "Write 27", r.write(27), api.OK)
	r.all()
	// All bits 1, all bits 0: neither is taken for an erased page, or for none.
	for _, fill := range []byte{0xff, 0} {
		b := bytes.Repeat([]byte{fill}, api.PageLen)
		is(t, "Write", r.f.Write(5, b), api.OK)
		got, e := r.f.Read(5)
		is(t, "Read", e, api.OK)
		is(t, "Read", bytes.Equal(got, b), true)
	}
	is(t, "Flush", r.f.Flush(), api.OK)
	is(t, "Only", r.f.Only(), false)
}

func TestP82ReadOfAPageThatIsNotWhole(t *testing.T) {
	r := rigged(t, small, nil).format()
	for i := range 28 {
		r.write(i)
	}
	place, _ := plan.Where(r.f.Table(), 9)
	used := plan.Used(r.f.Table())
	is(t, "Erase", r.c.Erase(place.Phys), api.OK)
	b, e := r.f.Read(9)
	is(t, "Read", e, api.ErrIo)
	is(t, "Read", b == nil, true)
	// A whole page of another sector is not what must be there, nor is one of records.
	lay(t, r.c, api.Place{Phys: place.Phys}, api.Header{Kind: api.PgLog, Page: 9, Seq: 1, Stamp: 1}, content(9, 1))
	lay(t, r.c, api.Place{Phys: place.Phys, Page: 1}, api.Header{Kind: api.PgLog, Page: 10, Seq: 1, Stamp: 1}, content(10, 1))
	lay(t, r.c, api.Place{Phys: place.Phys, Page: 2}, api.Header{Kind: api.PgAnchor, Page: 10, Seq: 1, Stamp: 1}, content(10, 1))
	for sector := 8; sector < 12; sector++ {
		_, e := r.f.Read(sector)
		is(t, "Read", e, api.ErrIo)
	}
	// What is lost is told for as long as it is not written again, also behind merges; all else goes on.
	for i := range 300 {
		if sector := i * 5 % 28; sector < 8 || sector >= 12 {
			is(t, "Write", r.write(sector), api.OK)
		}
		_, e := r.f.Read(9)
		is(t, "Read", e, api.ErrIo)
	}
	is(t, "the same blocks are used", slices.Equal(used, plan.Used(r.f.Table())), false)
	for sector := 8; sector < 12; sector++ {
		is(t, "Write", r.write(sector), api.OK)
	}
	r.all()
}

func TestP82WithoutPower(t *testing.T) {
	base := rigged(t, small, nil).format()
	for i := range 10 {
		base.write(i)
	}
	at := base.c.Ops() + 1
	r := rigged(t, small, nil, cutAt(at), cutAt(at+1)).format()
	for i := range 10 {
		r.write(i)
	}
	none := func(sector int, want api.Errno) {
		t.Helper()
		b, e := r.f.Read(sector)
		is(t, "Read", e, want)
		is(t, "Read", b == nil, true)
	}
	p := r.f.Pool()
	free, _ := pool.Choose(p)
	unplug(t, r.c, free)
	none(0, api.ErrPower)
	none(-1, api.ErrArg)
	none(28, api.ErrArg)
	is(t, "Flush", r.f.Flush(), api.ErrPower)
	is(t, "Size", r.f.Size(), 28)
	// No Write told of it: it goes on when the power is back.
	is(t, "Restart", r.c.Restart(), api.OK)
	r.all()
	is(t, "Flush", r.f.Flush(), api.OK)
	unplug(t, r.c, free)
	is(t, "Write", r.f.Write(-1, content(0, 9)), api.ErrArg)
	is(t, "Write", r.f.Write(0, nil), api.ErrArg)
	is(t, "Restart", r.c.Restart(), api.OK)
	r.all()
}

// Behind an ErrPower of Write nothing goes on, whatever the chip does.
func TestP82MountAnew(t *testing.T) {
	for _, isCut := range []bool{true, false} {
		base := rigged(t, small, nil).format()
		for i := range 10 {
			base.write(i)
		}
		r := rigged(t, small, nil, cutAt(base.c.Ops()+1)).format()
		for i := range 10 {
			r.write(i)
		}
		if !isCut {
			free, _ := pool.Choose(r.f.Pool())
			unplug(t, r.c, free)
		}
		x, p, s := r.f.Table(), r.f.Pool(), r.f.State()
		is(t, "Write", r.write(10), api.ErrPower)
		is(t, "Restart", r.c.Restart(), api.OK)
		for range 2 {
			b, e := r.f.Read(0)
			is(t, "Read", e, api.ErrPower)
			is(t, "Read", b == nil, true)
			is(t, "Write", r.f.Write(0, content(0, 99)), api.ErrPower)
			is(t, "Flush", r.f.Flush(), api.ErrPower)
		}
		is(t, "Size", r.f.Size(), 28)
		is(t, "Only", r.f.Only(), false)
		is(t, "Table", plan.Same(r.f.Table(), x), true)
		is(t, "Pool", pool.Same(r.f.Pool(), p), true)
		is(t, "State", r.f.State().Seq >= s.Seq, true)
		r.mount().all()
	}
}

// Write until it is read-only, and what is answered then.
func TestP82ReadOnly(t *testing.T) {
	var events []api.Event
	for at := int64(80); at < 400; at += 3 {
		events = append(events, failAt(at))
	}
	r := rigged(t, small, nil, events...).format()
	i := 0
	for ; r.write(i*11%28) != api.ErrOnly; i++ {
		is(t, "Only", r.f.Only(), false)
		r.all()
	}
	ops := r.c.Ops()
	for sector := range 28 {
		is(t, "Write", r.f.Write(sector, content(sector, 1)), api.ErrOnly)
	}
	is(t, "Write", r.f.Write(28, content(0, 1)), api.ErrArg)
	is(t, "Write", r.f.Write(0, nil), api.ErrArg)
	is(t, "Only", r.f.Only(), true)
	is(t, "Flush", r.f.Flush(), api.OK)
	is(t, "operations", r.c.Ops(), ops)
	r.all()
	// Without power it is ErrPower, and that stays.
	again := rigged(t, small, nil, append(slices.DeleteFunc(slices.Clone(events), func(e api.Event) bool { return e.At > ops }), cutAt(ops+1))...).format()
	for i := 0; again.write(i*11%28) != api.ErrOnly; i++ {
	}
	is(t, "operations", again.c.Ops(), ops)
	for block := range 16 {
		if again.c.Erase(block) == api.ErrPower {
			break
		}
	}
	is(t, "On", again.c.On(), false)
	is(t, "Write", again.f.Write(0, content(0, 1)), api.ErrPower)
	is(t, "Only", again.f.Only(), true)
	again.c.Restart()
	is(t, "Write", again.f.Write(0, content(0, 1)), api.ErrPower)
}

// The greatest sequence number on the chip ahead of a mount, and those shortly below it.
func TestP82TheLastNumbers(t *testing.T) {
	for left := range int64(40) {
		for kind := range 3 {
			c := chip(t, small.g, nil)
			h := api.Header{Kind: api.PgLog, Page: 5, Seq: api.MaxSeq - left, Stamp: api.MaxSeq - left}
			switch kind {
			case 0:
				lay(t, c, api.Place{Phys: 9}, h, content(5, 7))
			case 1:
				// A copy of it that is as old.
				h.Kind, h.Seq = api.PgData, 3
				lay(t, c, api.Place{Phys: 9, Page: 2}, h, content(5, 7))
			case 2:
				// But a record knows of it.
				lay(t, c, api.Place{Phys: 9}, api.Header{Kind: api.PgLog, Page: 5, Seq: 3, Stamp: 3}, content(5, 7))
				lay(t, c, api.Place{Phys: 3}, api.Header{Kind: api.PgAnchor, Seq: 4, Stamp: 4}, records(t, api.MapRecord{Kind: api.MrSeq, Value: api.MaxSeq - left}))
			}
			r := rigged(t, small, nil)
			r.c, r.full = c, true
			r.may[5] = []int{7}
			r.mount()
			is(t, "Only", r.f.Only(), left < 2)
			wrote := int64(0)
			for ; r.write(int(1+wrote*4%25)) == api.OK; wrote++ {
				r.all()
			}
			is(t, "Only", r.f.Only(), true)
			r.all()
			if wrote > left-2 && left >= 2 {
				t.Errorf("%d writes with %d numbers", wrote, left)
			}
			if left > 10 && wrote == 0 {
				t.Errorf("no write with %d numbers", left)
			}
			for _, f := range whole(r.c) {
				if f.H.Stamp > api.MaxSeq {
					t.Errorf("%v", f)
				}
			}
			is(t, "State", r.f.State().Seq <= api.MaxSeq, true)
			r.mount().all()
		}
	}
}

// Each program takes one number, and each page has what it must have beside it.
func TestP82Numbers(t *testing.T) {
	r := rigged(t, small, nil).format()
	s := stream(82)
	for range 400 {
		was, erased := r.c.Ops(), r.erases()
		number := r.f.State().Seq
		sector := s.below(28)
		r.write(sector)
		is(t, "numbers", r.f.State().Seq-number, r.c.Ops()-was-(r.erases()-erased))
		place, _ := plan.Where(r.f.Table(), sector)
		p, _ := r.c.Read(place.Phys, place.Page)
		h, data, e := page.Decode(p)
		is(t, "Decode", e, api.OK)
		is(t, "what was written", bytes.Equal(data, content(sector, r.n)), true)
		is(t, "the last page's header", h, api.Header{Kind: api.PgLog, Page: sector, Seq: r.f.State().Seq, Stamp: r.f.State().Seq})
		stamps := map[int64]bool{}
		seqs := map[int64]bool{}
		for _, f := range whole(r.c) {
			if stamps[f.H.Stamp] || f.H.Stamp > r.f.State().Seq || f.H.Kind == api.PgData && f.H.Stamp == f.H.Seq || f.H.Kind == api.PgAnchor && f.H.Page != 0 {
				t.Fatalf("%v", f)
			}
			stamps[f.H.Stamp] = true
			if f.H.Kind != api.PgData && seqs[f.H.Seq] {
				t.Fatalf("%v", f)
			}
			if f.H.Kind != api.PgData {
				seqs[f.H.Seq] = true
			}
		}
	}
}

// erases is how often blocks of the chip were erased.
func (r *rig) erases() int64 {
	n := int64(0)
	for _, wear := range r.wears() {
		n += wear
	}
	return n
}

// wears is how often each block of the chip was erased.
func (r *rig) wears() []int64 {
	l := make([]int64, r.g.Blocks)
	for block := range l {
		look, _ := r.c.Look(block)
		l[block] = look.Wear
	}
	return l
}

// A log is opened in the block that pool.Choose says, as long as no block goes to the records in between; that is erased, if it was not since the mount.
func TestP82FreshBlocks(t *testing.T) {
	r := rigged(t, small, nil).format()
	s := stream(83)
	seen := map[bool]int{}
	mounted := r.wears()
	for range 800 {
		if s.below(20) == 0 {
			mounted = r.wears()
			r.mount()
			continue
		}
		x, p, was := r.f.Table(), r.f.Pool(), r.wears()
		sector := s.below(28)
		step, _ := plan.Want(x, sector)
		block, _ := pool.Choose(p)
		books := slices.Collect(pool.All(p, api.RoMap))
		r.write(sector)
		if !slices.Equal(books, slices.Collect(pool.All(r.f.Pool(), api.RoMap))) {
			continue
		}
		y := r.f.Table()
		switch step.Kind {
		case api.StOpenSeq:
			is(t, "Seq", y.Seq, api.SeqLog{Phys: block, Logical: sector / 4, Used: 1})
		case api.StOpenRand:
			last := y.Logs[len(y.Logs)-1]
			is(t, "the last log", last.Phys == block && slices.Equal(last.Pages, []int{sector}), true)
		default:
			continue
		}
		isErased := was[block] > mounted[block]
		seen[isErased]++
		is(t, "erased for it", r.wears()[block]-was[block] == 1, !isErased)
	}
	if seen[true] < 30 || seen[false] < 30 {
		t.Errorf("%v logs were opened", seen)
	}
}

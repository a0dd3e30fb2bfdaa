package cache_test

import (
	"math"
	"slices"
	"testing"

	"slipway/api"
	"slipway/cache"
	"slipway/disk"
	"slipway/ftl"
	"slipway/nand"
)

func TestFaultHurt(t *testing.T) {
	d, c := begun(t, 20, 8)
	d.Hurt(5)
	for range 2 {
		fails(t, c, 5, api.ErrIo)
		is(t, "Pin", c.Pin(5), api.ErrIo)
		holds(t, c, 20)
		is(t, "Pins", c.Pins(5), 0)
	}
	is(t, "Unpin", c.Unpin(5), api.ErrNone)
	// A write needs no read; the buffer is not asked of the disk; and home it heals the sector.
	ok(t, "Write", c.Write(5, fill(5), api.ClMeta))
	reads(t, c, 5, fill(5))
	ok(t, "Pin", c.Pin(5))
	ok(t, "Unpin", c.Unpin(5))
	ok(t, "Clean", c.Clean(5))
	stands(t, d, 5, fill(5))
	// Hurt beneath its buffer.
	d.Hurt(5)
	reads(t, c, 5, fill(5))
	ok(t, "Forget", c.Forget(5))
	fails(t, c, 5, api.ErrIo)
	holds(t, c, 20)
}

// Room was made already when the disk is read: what went for it is gone, and home.
func TestFaultHurtWithoutRoom(t *testing.T) {
	for _, class := range []int{0, api.ClData} {
		for _, pin := range []bool{false, true} {
			d, c := begun(t, 20, 8)
			for block := range 8 {
				reads(t, c, block, numbered(block))
				if class != 0 {
					writes(t, c, class, block)
				}
			}
			d.asked = nil
			d.Hurt(10)
			if pin {
				is(t, "Pin", c.Pin(10), api.ErrIo)
			} else {
				fails(t, c, 10, api.ErrIo)
			}
			holds(t, c, 20, upTo(8, 0)...)
			if class == 0 {
				d.seen(t, ask{"read", 10})
			} else {
				d.seen(t, ask{"write", 0}, ask{"read", 10})
				stands(t, d, 0, numbered(1000))
				dirty(t, c, class, upTo(8, 0)...)
			}
			// There is room now: none goes for the next one.
			reads(t, c, 11, numbered(11))
			holds(t, c, 20, append(upTo(8, 0), 11)...)
		}
	}
}

// The disk's own error is answered, whatever it is, and nothing beside it.
func TestFaultAny(t *testing.T) {
	for _, e := range []api.Errno{api.ErrOnly, api.ErrPower, api.ErrIo, api.ErrArg, api.ErrNone, api.ErrPin, 777, -5} {
		d, c := begun(t, 20, 8)
		d.fault[ask{"read", 1}] = e
		d.fault[ask{"write", 2}] = e
		d.fault[ask{"flush", 0}] = e
		fails(t, c, 1, e)
		is(t, "Pin", c.Pin(1), e)
		is(t, "Flush", c.Flush(), e)
		is(t, "Sync", c.Sync(api.ClData), e)
		writes(t, c, api.ClMeta, 2, 3, 4)
		is(t, "Clean", c.Clean(3, 2, 4), e)
		dirty(t, c, api.ClMeta, 2, 4)
		is(t, "Writes", d.Writes(), 1)
		reads(t, c, 2, numbered(1002))
	}
}

// With an error of a write there is no flush; with one of the flush all is written.
func TestFaultSync(t *testing.T) {
	d, c := begun(t, 20, 8)
	writes(t, c, api.ClMeta, 7, 3, 5)
	d.fault[ask{"write", 5}] = api.ErrOnly
	is(t, "Sync", c.Sync(api.ClMeta), api.ErrOnly)
	d.seen(t, ask{"write", 3}, ask{"write", 5})
	dirty(t, c, api.ClMeta, 5, 7)
	is(t, "Sync", c.Sync(api.ClMeta), api.ErrOnly)
	d.seen(t, ask{"write", 5})
	clear(d.fault)
	d.fault[ask{"flush", 0}] = api.ErrFull
	is(t, "Sync", c.Sync(api.ClMeta), api.ErrFull)
	d.seen(t, ask{"write", 5}, ask{"write", 7}, ask{"flush", 0})
	dirty(t, c, api.ClMeta)
	stands(t, d, 7, numbered(1007))
}

// The power is cut behind each number of writes: up to there all is home and clean, from there on all is dirty still.
func TestFaultCut(t *testing.T) {
	order := []int{6, 1, 7, 3, 0, 5}
	for _, class := range []int{api.ClData, api.ClMeta} {
		for cut := range len(order) + 2 {
			for _, sync := range []bool{false, true} {
				d, c := begun(t, 20, 8)
				writes(t, c, class, order...)
				row := order
				call := func() api.Errno { return c.Clean(order...) }
				if sync {
					row = []int{0, 1, 3, 5, 6, 7}
					call = func() api.Errno { return c.Sync(class) }
				}
				d.CutAfter(cut)
				want := api.OK
				if cut < len(row) {
					want = api.ErrPower
				}
				is(t, "cut", call(), want)
				done := min(cut, len(row))
				is(t, "Writes", d.Writes(), int64(done))
				dirty(t, c, class, slices.Sorted(slices.Values(row[done:]))...)
				holds(t, c, 20, order...)
				for _, block := range row {
					reads(t, c, block, numbered(block+1000))
				}
				d.Restart()
				for i, block := range row {
					if i < done {
						stands(t, d, block, numbered(block+1000))
					} else {
						stands(t, d, block, numbered(block))
					}
				}
				ok(t, "again", call())
				dirty(t, c, class)
				is(t, "Writes", d.Writes(), int64(len(row)))
			}
		}
	}
}

// The power is cut when a dirty buffer is to make room: it stays, dirty, and so does all the rest.
func TestFaultCutMakingRoom(t *testing.T) {
	for name, come := range newcomers() {
		for cut := range 8 {
			d, c := begun(t, 40, 8)
			writes(t, c, api.ClData, upTo(8)...)
			d.CutAfter(cut)
			for i := range cut {
				ok(t, name, come(c, 20+i))
			}
			is(t, "Writes", d.Writes(), int64(cut))
			for range 3 {
				is(t, name, come(c, 30), api.ErrPower)
				is(t, "Has", c.Has(30), false)
				is(t, "Pins", c.Pins(30), 0)
				is(t, "Has", c.Has(cut), true)
				is(t, "Len", c.Len(), 8)
			}
			is(t, "Writes", d.Writes(), int64(cut))
			l := upTo(8, upTo(cut)...)
			if name == "Write" {
				for i := range cut {
					l = append(l, 20+i)
				}
			}
			dirty(t, c, api.ClData, l...)
			reads(t, c, cut, numbered(cut+1000))
			d.Restart()
			stands(t, d, cut, numbered(cut))
			ok(t, name, come(c, 30))
		}
	}
}

// Without power what has a buffer is there still, and may be written.
func TestFaultWithoutPower(t *testing.T) {
	d, c := begun(t, 20, 8)
	reads(t, c, 1, numbered(1))
	writes(t, c, api.ClMeta, 2)
	d.CutAfter(0)
	is(t, "Clean", c.Clean(2), api.ErrPower)
	reads(t, c, 1, numbered(1))
	reads(t, c, 2, numbered(1002))
	ok(t, "Pin", c.Pin(1))
	ok(t, "Unpin", c.Unpin(1))
	writes(t, c, api.ClData, 1, 3)
	fails(t, c, 4, api.ErrPower)
	is(t, "Pin", c.Pin(4), api.ErrPower)
	is(t, "Flush", c.Flush(), api.ErrPower)
	ok(t, "Clean of a clean one", c.Clean(5))
	for _, class := range []int{api.ClData, api.ClMeta} {
		is(t, "Sync", c.Sync(class), api.ErrPower)
	}
	dirty(t, c, api.ClData, 1, 3)
	dirty(t, c, api.ClMeta, 2)
	ok(t, "Forget", c.Forget(3))
	// Nothing is dirty of the class: it is the flush that says it.
	ok(t, "Forget", c.Forget(2))
	is(t, "Sync", c.Sync(api.ClMeta), api.ErrPower)
	is(t, "Writes", d.Writes(), 0)
}

// flash is a disk made of a chip, whose power goes in the operation of that number.
func flash(t *testing.T, cut int64) *ftl.Ftl {
	t.Helper()
	g := api.Geometry{Blocks: 16, Pages: 4}
	chip, e := nand.New(g, nil, api.Event{At: cut, Kind: api.EvCut})
	is(t, "nand.New", e, api.OK)
	ok(t, "Format", ftl.Format(chip, 1, 1))
	f, e := ftl.Mount(chip, 1, 1)
	is(t, "Mount", e, api.OK)
	return f
}

func TestFaultFlash(t *testing.T) {
	f := flash(t, 1<<40)
	c, e := cache.New(f, api.MinRoom)
	is(t, "New", e, api.OK)
	for block := range f.Size() {
		ok(t, "Write", c.Write(block, numbered(block), api.ClData))
	}
	is(t, "Len", c.Len(), api.MinRoom)
	for block := range f.Size() {
		reads(t, c, block, numbered(block))
	}
	ok(t, "Sync", c.Sync(api.ClData))
	for block := range f.Size() {
		b, e := f.Read(block)
		is(t, "Read", e, api.OK)
		is(t, "bytes", string(b), string(numbered(block)))
	}
	fails(t, c, f.Size(), api.ErrArg)
}

func TestFaultFlashCut(t *testing.T) {
	f := flash(t, 200)
	c, e := cache.New(f, api.MinRoom)
	is(t, "New", e, api.OK)
	n := 0
	for e == api.OK && n < 1000 {
		n++
		ok(t, "Write", c.Write(n%f.Size(), numbered(n), api.ClMeta))
		e = c.Clean(n % f.Size())
	}
	is(t, "Clean", e, api.ErrPower)
	dirty(t, c, api.ClMeta, n%f.Size())
	reads(t, c, n%f.Size(), numbered(n))
	is(t, "Sync", c.Sync(api.ClMeta), api.ErrPower)
	is(t, "Flush", c.Flush(), api.ErrPower)
}

// odd is a disk of another make: it hands out its own bytes, keeps and changes those that it is given, and may have any size.
type odd struct {
	size    int
	sectors map[int][]byte
}

func (o *odd) Size() int { return o.size }

func (o *odd) Read(block int) ([]byte, api.Errno) { return o.sectors[block], api.OK }

func (o *odd) Write(block int, b []byte) api.Errno {
	o.sectors[block] = append([]byte(nil), b...)
	clear(b)
	return api.OK
}

func (o *odd) Flush() api.Errno { return api.OK }

func TestOtherMakes(t *testing.T) {
	o := &odd{size: math.MaxInt, sectors: map[int][]byte{3: fill(3)}}
	c, e := cache.New(o, api.MinRoom)
	is(t, "New", e, api.OK)
	reads(t, c, 3, fill(3))
	clear(o.sectors[3])
	reads(t, c, 3, fill(3))
	far := math.MaxInt - 1
	ok(t, "Write", c.Write(far, fill(4), api.ClData))
	ok(t, "Clean", c.Clean(far))
	reads(t, c, far, fill(4))
	is(t, "home", string(o.sectors[far]), string(fill(4)))
	fails(t, c, math.MaxInt, api.ErrArg)
	// The disk's Size is what it is now.
	o.size = 4
	is(t, "Has", c.Has(far), false)
	fails(t, c, far, api.ErrArg)
	is(t, "Has", c.Has(3), true)
	for _, size := range []int{0, -1, math.MinInt} {
		c, e := cache.New(&odd{size: size}, api.MinRoom)
		is(t, "New", e, api.OK)
		fails(t, c, 0, api.ErrArg)
		fails(t, c, -1, api.ErrArg)
		is(t, "Write", c.Write(0, fill(1), api.ClData), api.ErrArg)
		ok(t, "Sync", c.Sync(api.ClData))
	}
}

// wild is a disk whose calls panic from some time on.
type wild struct {
	*disk.RAM
	bad bool
}

func (w *wild) Read(block int) ([]byte, api.Errno) {
	if w.bad {
		panic("read")
	}
	return w.RAM.Read(block)
}

func (w *wild) Write(block int, b []byte) api.Errno {
	if w.bad {
		panic("write")
	}
	return w.RAM.Write(block, b)
}

func (w *wild) Flush() api.Errno {
	if w.bad {
		panic("flush")
	}
	return w.RAM.Flush()
}

func TestR1DiskPanics(t *testing.T) {
	d, _ := disk.New(20)
	w := &wild{RAM: d}
	c, e := cache.New(w, 8)
	is(t, "New", e, api.OK)
	writes(t, c, api.ClData, upTo(8)...)
	w.bad = true
	fails(t, c, 10, api.ErrMade)
	is(t, "Pin", c.Pin(10), api.ErrMade)
	is(t, "Write", c.Write(10, fill(1), api.ClData), api.ErrMade)
	is(t, "Clean", c.Clean(1), api.ErrMade)
	is(t, "Sync", c.Sync(api.ClData), api.ErrMade)
	is(t, "Flush", c.Flush(), api.ErrMade)
	dirty(t, c, api.ClData, upTo(8)...)
	holds(t, c, 20, upTo(8)...)
	w.bad = false
	ok(t, "Sync", c.Sync(api.ClData))
	// A disk that is not there any more.
	w.RAM = nil
	fails(t, c, 10, api.ErrArg)
	fails(t, c, 1, api.ErrArg)
}

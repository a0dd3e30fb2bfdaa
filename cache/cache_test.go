package cache_test

import (
	"bytes"
	"iter"
	"math"
	"slices"
	"testing"

	"slipway/api"
	"slipway/cache"
	"slipway/disk"
	"slipway/ftl"
)

// stream is a row of numbers that is the same each time.
type stream uint64

func (s *stream) next() uint64 {
	*s = *s*6364136223846793005 + 1442695040888963407
	return uint64(*s >> 33)
}

func (s *stream) below(n int) int { return int(s.next() % uint64(n)) }

func fill(b byte) []byte { return bytes.Repeat([]byte{b}, api.PageLen) }

// numbered is bytes that tell their number.
func numbered(n int) []byte {
	b := make([]byte, api.PageLen)
	for i := range b {
		b[i] = byte(n*7 + i*13)
	}
	b[0], b[1], b[2] = byte(n), byte(n>>8), byte(n>>16)
	return b
}

// is holds what was answered against what is asked for.
func is[T comparable](t *testing.T, what string, got, want T) {
	t.Helper()
	if got != want {
		t.Fatalf("%s: %v, not %v", what, got, want)
	}
}

// ask is a call that a disk has seen.
type ask struct {
	call  string
	block int
}

// spy is a disk that keeps in mind what it was asked for, and answers errors where it is told to.
type spy struct {
	*disk.RAM
	asked []ask
	fault map[ask]api.Errno
}

func (s *spy) Read(block int) ([]byte, api.Errno) {
	a := ask{"read", block}
	s.asked = append(s.asked, a)
	if e := s.fault[a]; e != api.OK {
		return []byte("beside an error"), e
	}
	return s.RAM.Read(block)
}

func (s *spy) Write(block int, b []byte) api.Errno {
	a := ask{"write", block}
	s.asked = append(s.asked, a)
	if e := s.fault[a]; e != api.OK {
		return e
	}
	return s.RAM.Write(block, b)
}

func (s *spy) Flush() api.Errno {
	a := ask{"flush", 0}
	s.asked = append(s.asked, a)
	if e := s.fault[a]; e != api.OK {
		return e
	}
	return s.RAM.Flush()
}

// seen is what the disk was asked for since it was told last.
func (s *spy) seen(t *testing.T, want ...ask) {
	t.Helper()
	if !slices.Equal(s.asked, want) {
		t.Fatalf("the disk was asked for %v, not %v", s.asked, want)
	}
	s.asked = nil
}

// begun is a disk whose sector i is numbered(i), and a cache of it.
func begun(t *testing.T, sectors, room int) (*spy, *cache.Cache) {
	t.Helper()
	var image [][]byte
	for i := range sectors {
		image = append(image, numbered(i))
	}
	d, e := disk.Of(image...)
	is(t, "Of", e, api.OK)
	s := &spy{RAM: d, fault: map[ask]api.Errno{}}
	c, e := cache.New(s, room)
	is(t, "New", e, api.OK)
	return s, c
}

func reads(t *testing.T, c *cache.Cache, block int, want []byte) {
	t.Helper()
	b, e := c.Read(block)
	if e != api.OK || !bytes.Equal(b, want) {
		t.Fatalf("Read(%d): %d, %x, not %x", block, e, b, want)
	}
}

// fails is a read that answers an error and nothing else.
func fails(t *testing.T, c *cache.Cache, block int, want api.Errno) {
	t.Helper()
	b, e := c.Read(block)
	if e != want || b != nil {
		t.Fatalf("Read(%d): %d, %x, not %d", block, e, b, want)
	}
}

// stands is what the disk beneath has.
func stands(t *testing.T, d *spy, block int, want []byte) {
	t.Helper()
	b, e := d.RAM.Read(block)
	if e != api.OK || !bytes.Equal(b, want) {
		t.Fatalf("sector %d of the disk: %d, %x, not %x", block, e, b, want)
	}
}

func ok(t *testing.T, what string, e api.Errno) {
	t.Helper()
	is(t, what, e, api.OK)
}

func writes(t *testing.T, c *cache.Cache, class int, blocks ...int) {
	t.Helper()
	for _, block := range blocks {
		ok(t, "Write", c.Write(block, numbered(block+1000), class))
	}
}

func dirty(t *testing.T, c *cache.Cache, class int, want ...int) {
	t.Helper()
	if l := slices.Collect(c.Dirty(class)); !slices.Equal(l, want) {
		t.Fatalf("Dirty(%d): %v, not %v", class, l, want)
	}
}

// holds is which blocks have buffers, of so many that there are.
func holds(t *testing.T, c *cache.Cache, sectors int, want ...int) {
	t.Helper()
	var l []int
	for block := range sectors {
		if c.Has(block) {
			l = append(l, block)
		}
	}
	slices.Sort(want)
	if !slices.Equal(l, want) || c.Len() != len(want) {
		t.Fatalf("buffers: %v, Len %d, not %v", l, c.Len(), want)
	}
}

// broken is a disk whose calls panic if it is nil.
type broken struct{ sectors [][]byte }

func (b *broken) Size() int                           { return len(b.sectors) }
func (b *broken) Read(sector int) ([]byte, api.Errno) { return b.sectors[sector], api.OK }
func (b *broken) Write(int, []byte) api.Errno         { return api.OK }
func (b *broken) Flush() api.Errno                    { return api.OK }

func TestP101New(t *testing.T) {
	for _, room := range []int{api.MinRoom, api.MinRoom + 1, 100, api.MaxRoom - 1, api.MaxRoom} {
		d, c := begun(t, api.MaxRoom+2, room)
		is(t, "Len", c.Len(), 0)
		for block := range d.Size() {
			is(t, "Has", c.Has(block), false)
			is(t, "Pins", c.Pins(block), 0)
		}
		dirty(t, c, api.ClData)
		dirty(t, c, api.ClMeta)
		d.seen(t)
		for i := range room + 2 {
			reads(t, c, i, numbered(i))
			is(t, "Len", c.Len(), min(i+1, room))
		}
	}
}

func TestP101NewWrong(t *testing.T) {
	var nothing api.Disk
	var none *disk.RAM
	var flash *ftl.Ftl
	var null *broken
	rooms := []int{math.MinInt, -1, 0, 1, api.MinRoom - 1, api.MinRoom, api.MaxRoom, api.MaxRoom + 1, math.MaxInt}
	for _, room := range rooms {
		for i, d := range []api.Disk{nil, nothing, none, &disk.RAM{}, flash, &ftl.Ftl{}, null} {
			c, e := cache.New(d, room)
			if c != nil || e != api.ErrMade {
				t.Errorf("New(disk %d, %d): %v, %d", i, room, c, e)
			}
		}
		d, _ := disk.New(3)
		c, e := cache.New(d, room)
		if may := room == api.MinRoom || room == api.MaxRoom; may != (c != nil) || may != (e == api.OK) {
			t.Errorf("New(%d): %v, %d", room, c, e)
		}
		if e != api.OK {
			is(t, "New", e, api.ErrArg)
		}
	}
}

// A disk without power is a disk.
func TestP101NewWithoutPower(t *testing.T) {
	d, _ := disk.New(3)
	d.CutAfter(0)
	d.Write(0, fill(1))
	c, e := cache.New(d, api.MinRoom)
	is(t, "New", e, api.OK)
	fails(t, c, 0, api.ErrPower)
	fails(t, c, 3, api.ErrArg)
	is(t, "Pin", c.Pin(0), api.ErrPower)
	is(t, "Flush", c.Flush(), api.ErrPower)
	ok(t, "Write", c.Write(0, fill(2), api.ClData))
	reads(t, c, 0, fill(2))
}

func TestP101NotMade(t *testing.T) {
	var none *cache.Cache
	for _, c := range []*cache.Cache{none, {}} {
		for _, block := range []int{math.MinInt, -1, 0, 1, math.MaxInt} {
			fails(t, c, block, api.ErrMade)
			for _, b := range [][]byte{nil, fill(1)[1:], fill(1)} {
				for class := range 4 {
					is(t, "Write", c.Write(block, b, class), api.ErrMade)
				}
			}
			is(t, "Pin", c.Pin(block), api.ErrMade)
			is(t, "Unpin", c.Unpin(block), api.ErrMade)
			is(t, "Clean", c.Clean(block), api.ErrMade)
			is(t, "Forget", c.Forget(block, block), api.ErrMade)
			is(t, "Has", c.Has(block), false)
			is(t, "Pins", c.Pins(block), 0)
		}
		for class := -1; class < 4; class++ {
			is(t, "Sync", c.Sync(class), api.ErrMade)
			dirty(t, c, class)
		}
		is(t, "Clean", c.Clean(), api.ErrMade)
		is(t, "Forget", c.Forget(), api.ErrMade)
		is(t, "Flush", c.Flush(), api.ErrMade)
		is(t, "Len", c.Len(), 0)
	}
}

func TestP101NoSuchBlock(t *testing.T) {
	for _, n := range []int{1, 9, 100, api.MaxSectors} {
		d, c := begun(t, n, api.MinRoom)
		for _, block := range []int{-1, n, n + 1, -n, math.MinInt, math.MaxInt} {
			fails(t, c, block, api.ErrArg)
			for _, b := range [][]byte{nil, fill(1)[1:], fill(1)} {
				for class := range 4 {
					is(t, "Write", c.Write(block, b, class), api.ErrArg)
				}
			}
			is(t, "Pin", c.Pin(block), api.ErrArg)
			is(t, "Unpin", c.Unpin(block), api.ErrArg)
			is(t, "Clean", c.Clean(block), api.ErrArg)
			is(t, "Forget", c.Forget(block), api.ErrArg)
			is(t, "Has", c.Has(block), false)
			is(t, "Pins", c.Pins(block), 0)
			is(t, "Len", c.Len(), 0)
			d.seen(t)
		}
		for _, block := range []int{0, n - 1} {
			reads(t, c, block, numbered(block))
			ok(t, "Write", c.Write(block, fill(1), api.ClMeta))
			ok(t, "Pin", c.Pin(block))
			is(t, "Has", c.Has(block), true)
			is(t, "Pins", c.Pins(block), 1)
			ok(t, "Unpin", c.Unpin(block))
			ok(t, "Clean", c.Clean(block))
			stands(t, d, block, fill(1))
			ok(t, "Forget", c.Forget(block))
			is(t, "Has", c.Has(block), false)
			ok(t, "Write", d.RAM.Write(block, numbered(block)))
		}
	}
}

func TestP102Read(t *testing.T) {
	d, c := begun(t, 20, 8)
	reads(t, c, 5, numbered(5))
	d.seen(t, ask{"read", 5})
	holds(t, c, 20, 5)
	is(t, "Pins", c.Pins(5), 0)
	dirty(t, c, api.ClData)
	dirty(t, c, api.ClMeta)
	// It has a buffer now: the disk is not asked, nor seen.
	ok(t, "Write", d.RAM.Write(5, fill(1)))
	reads(t, c, 5, numbered(5))
	d.seen(t)
	// And it is clean: nothing of it is written.
	ok(t, "Clean", c.Clean(5))
	d.seen(t)
	ok(t, "Forget", c.Forget(5))
	reads(t, c, 5, fill(1))
	d.seen(t, ask{"read", 5})
	// One that was written, and never read.
	ok(t, "Write", c.Write(6, fill(2), api.ClData))
	reads(t, c, 6, fill(2))
	d.seen(t)
}

func TestP102Write(t *testing.T) {
	d, c := begun(t, 20, 8)
	ok(t, "Write", c.Write(3, fill(1), api.ClData))
	ok(t, "Write", c.Write(4, fill(2), api.ClMeta))
	// Neither read from the disk nor written there.
	d.seen(t)
	holds(t, c, 20, 3, 4)
	dirty(t, c, api.ClData, 3)
	dirty(t, c, api.ClMeta, 4)
	reads(t, c, 3, fill(1))
	reads(t, c, 4, fill(2))
	stands(t, d, 3, numbered(3))
	stands(t, d, 4, numbered(4))
	// Over a clean buffer, too.
	reads(t, c, 7, numbered(7))
	ok(t, "Write", c.Write(7, fill(3), api.ClMeta))
	reads(t, c, 7, fill(3))
	dirty(t, c, api.ClMeta, 4, 7)
	holds(t, c, 20, 3, 4, 7)
}

func TestP102WriteWrong(t *testing.T) {
	lengths := []int{0, 1, api.PageLen - 1, api.PageLen, api.PageLen + 1, 2 * api.PageLen}
	for _, block := range []int{-1, 0, 5, 19, 20} {
		for _, length := range lengths {
			for _, class := range []int{math.MinInt, -1, 0, api.ClData, api.ClMeta, 3, math.MaxInt} {
				d, c := begun(t, 20, 8)
				// Block 5 has a buffer already.
				reads(t, c, 5, numbered(5))
				b := make([]byte, length)
				if length == 0 {
					b = nil
				}
				want := api.ErrArg
				if block >= 0 && block < 20 && length == api.PageLen && (class == 1 || class == 2) {
					want = api.OK
				}
				is(t, "Write", c.Write(block, b, class), want)
				if want != api.OK {
					holds(t, c, 20, 5)
					reads(t, c, 5, numbered(5))
					dirty(t, c, api.ClData)
					dirty(t, c, api.ClMeta)
				}
				is(t, "Writes", d.Writes(), 0)
			}
		}
	}
}

// What a buffer is dirty of is what was said last; its pins stay.
func TestP102WriteOver(t *testing.T) {
	for _, first := range []int{0, api.ClData, api.ClMeta} {
		for _, second := range []int{api.ClData, api.ClMeta} {
			for pins := range 4 {
				d, c := begun(t, 20, 8)
				if first != 0 {
					ok(t, "Write", c.Write(9, fill(1), first))
				}
				for range pins {
					ok(t, "Pin", c.Pin(9))
				}
				ok(t, "Write", c.Write(9, fill(2), second))
				is(t, "Pins", c.Pins(9), pins)
				is(t, "Len", c.Len(), 1)
				dirty(t, c, second, 9)
				dirty(t, c, api.ClData+api.ClMeta-second)
				reads(t, c, 9, fill(2))
				is(t, "Writes", d.Writes(), 0)
			}
		}
	}
}

func TestP102Pin(t *testing.T) {
	d, c := begun(t, 20, 8)
	for i := range 5 {
		ok(t, "Pin", c.Pin(5))
		is(t, "Pins", c.Pins(5), i+1)
	}
	d.seen(t, ask{"read", 5})
	holds(t, c, 20, 5)
	dirty(t, c, api.ClData)
	dirty(t, c, api.ClMeta)
	reads(t, c, 5, numbered(5))
	d.seen(t)
	// A dirty one stays what it is.
	ok(t, "Write", c.Write(6, fill(6), api.ClData))
	ok(t, "Pin", c.Pin(6))
	dirty(t, c, api.ClData, 6)
	reads(t, c, 6, fill(6))
	is(t, "Pins", c.Pins(6), 1)
	is(t, "Pins", c.Pins(7), 0)
	d.seen(t)
}

func TestP102Unpin(t *testing.T) {
	d, c := begun(t, 20, 8)
	is(t, "Unpin without a buffer", c.Unpin(5), api.ErrNone)
	holds(t, c, 20)
	reads(t, c, 5, numbered(5))
	is(t, "Unpin without a pin", c.Unpin(5), api.ErrNone)
	writes(t, c, api.ClMeta, 6)
	is(t, "Unpin without a pin", c.Unpin(6), api.ErrNone)
	for range 3 {
		ok(t, "Pin", c.Pin(5))
	}
	for left := 2; left >= 0; left-- {
		ok(t, "Unpin", c.Unpin(5))
		is(t, "Pins", c.Pins(5), left)
	}
	is(t, "Unpin once more", c.Unpin(5), api.ErrNone)
	is(t, "Pins", c.Pins(5), 0)
	holds(t, c, 20, 5, 6)
	dirty(t, c, api.ClMeta, 6)
	d.seen(t, ask{"read", 5})
}

func TestP103Clean(t *testing.T) {
	d, c := begun(t, 20, 8)
	writes(t, c, api.ClData, 1, 3)
	writes(t, c, api.ClMeta, 2, 4)
	reads(t, c, 5, numbered(5))
	d.seen(t, ask{"read", 5})
	ok(t, "Clean of nothing", c.Clean())
	ok(t, "Clean of a clean one", c.Clean(5))
	ok(t, "Clean without a buffer", c.Clean(6))
	d.seen(t)
	holds(t, c, 20, 1, 2, 3, 4, 5)
	// In the order in which they come, of both classes, each one once.
	ok(t, "Clean", c.Clean(4, 5, 1, 4, 6, 2, 1))
	d.seen(t, ask{"write", 4}, ask{"write", 1}, ask{"write", 2})
	dirty(t, c, api.ClData, 3)
	dirty(t, c, api.ClMeta)
	holds(t, c, 20, 1, 2, 3, 4, 5)
	for _, block := range []int{1, 2, 4} {
		stands(t, d, block, numbered(block+1000))
		reads(t, c, block, numbered(block+1000))
	}
	stands(t, d, 3, numbered(3))
	d.seen(t)
	// Dirty again, it is written again.
	ok(t, "Write", c.Write(4, fill(4), api.ClData))
	ok(t, "Clean", c.Clean(4))
	stands(t, d, 4, fill(4))
}

func TestP103CleanPinned(t *testing.T) {
	for _, class := range []int{api.ClData, api.ClMeta} {
		d, c := begun(t, 20, 8)
		writes(t, c, class, 1, 2, 3)
		ok(t, "Pin", c.Pin(2))
		ok(t, "Pin", c.Pin(2))
		is(t, "Clean", c.Clean(2), api.ErrPin)
		d.seen(t)
		is(t, "Clean", c.Clean(3, 2, 1), api.ErrPin)
		d.seen(t, ask{"write", 3})
		dirty(t, c, class, 1, 2)
		ok(t, "Unpin", c.Unpin(2))
		is(t, "Clean", c.Clean(2), api.ErrPin)
		ok(t, "Unpin", c.Unpin(2))
		ok(t, "Clean", c.Clean(2))
		d.seen(t, ask{"write", 2})
		// A clean one may be pinned: there is nothing to do.
		ok(t, "Pin", c.Pin(2))
		ok(t, "Clean", c.Clean(2, 1))
		d.seen(t, ask{"write", 1})
		is(t, "Pins", c.Pins(2), 1)
	}
}

// A block that there is not ends it, at its place in the row.
func TestP103CleanWrong(t *testing.T) {
	for _, wrong := range []int{-1, 20, math.MinInt, math.MaxInt} {
		d, c := begun(t, 20, 8)
		writes(t, c, api.ClMeta, 1, 2, 3)
		is(t, "Clean", c.Clean(2, wrong, 1), api.ErrArg)
		d.seen(t, ask{"write", 2})
		dirty(t, c, api.ClMeta, 1, 3)
		ok(t, "Pin", c.Pin(1))
		is(t, "Clean", c.Clean(wrong, 1), api.ErrArg)
		is(t, "Clean", c.Clean(1, wrong), api.ErrPin)
		d.seen(t)
		dirty(t, c, api.ClMeta, 1, 3)
	}
}

func TestP103Sync(t *testing.T) {
	for _, class := range []int{api.ClData, api.ClMeta} {
		other := api.ClData + api.ClMeta - class
		d, c := begun(t, 20, 8)
		writes(t, c, class, 9, 2, 17, 5)
		writes(t, c, other, 1, 10)
		reads(t, c, 3, numbered(3))
		d.seen(t, ask{"read", 3})
		ok(t, "Pin", c.Pin(5))
		ok(t, "Sync", c.Sync(class))
		d.seen(t, ask{"write", 2}, ask{"write", 9}, ask{"write", 17}, ask{"flush", 0})
		dirty(t, c, class, 5)
		dirty(t, c, other, 1, 10)
		holds(t, c, 20, 1, 2, 3, 5, 9, 10, 17)
		stands(t, d, 17, numbered(1017))
		stands(t, d, 5, numbered(5))
		stands(t, d, 1, numbered(1))
		// With nothing but a pinned one it flushes all the same.
		ok(t, "Sync", c.Sync(class))
		d.seen(t, ask{"flush", 0})
		ok(t, "Unpin", c.Unpin(5))
		ok(t, "Sync", c.Sync(class))
		d.seen(t, ask{"write", 5}, ask{"flush", 0})
		ok(t, "Sync", c.Sync(class))
		d.seen(t, ask{"flush", 0})
		dirty(t, c, other, 1, 10)
	}
}

func TestP103SyncWrong(t *testing.T) {
	d, c := begun(t, 20, 8)
	writes(t, c, api.ClData, 1)
	writes(t, c, api.ClMeta, 2)
	reads(t, c, 3, numbered(3))
	d.seen(t, ask{"read", 3})
	for _, class := range []int{math.MinInt, -1, 0, 3, math.MaxInt} {
		is(t, "Sync", c.Sync(class), api.ErrArg)
	}
	d.seen(t)
	dirty(t, c, api.ClData, 1)
	dirty(t, c, api.ClMeta, 2)
}

func TestP103Flush(t *testing.T) {
	d, c := begun(t, 20, 8)
	ok(t, "Flush", c.Flush())
	writes(t, c, api.ClData, 1)
	writes(t, c, api.ClMeta, 2)
	ok(t, "Flush", c.Flush())
	d.seen(t, ask{"flush", 0}, ask{"flush", 0})
	dirty(t, c, api.ClData, 1)
	dirty(t, c, api.ClMeta, 2)
}

func TestP103Forget(t *testing.T) {
	d, c := begun(t, 20, 8)
	writes(t, c, api.ClData, 1, 2)
	writes(t, c, api.ClMeta, 3, 4)
	reads(t, c, 5, numbered(5))
	for _, block := range []int{2, 3, 3, 6} {
		ok(t, "Pin", c.Pin(block))
	}
	d.seen(t, ask{"read", 5}, ask{"read", 6})
	ok(t, "Forget of nothing", c.Forget())
	ok(t, "Forget without a buffer", c.Forget(7))
	holds(t, c, 20, 1, 2, 3, 4, 5, 6)
	ok(t, "Forget", c.Forget(3, 1, 7, 3, 6))
	holds(t, c, 20, 2, 4, 5)
	dirty(t, c, api.ClData, 2)
	dirty(t, c, api.ClMeta, 4)
	is(t, "Pins", c.Pins(3), 0)
	is(t, "Pins", c.Pins(6), 0)
	is(t, "Unpin", c.Unpin(3), api.ErrNone)
	is(t, "Pins", c.Pins(2), 1)
	d.seen(t)
	// What was not home is lost.
	reads(t, c, 3, numbered(3))
	reads(t, c, 1, numbered(1))
	is(t, "Pins", c.Pins(3), 0)
	dirty(t, c, api.ClMeta, 4)
	ok(t, "Forget", c.Forget(1, 2, 3, 4, 5))
	holds(t, c, 20)
	is(t, "Writes", d.Writes(), 0)
}

func TestP103ForgetWrong(t *testing.T) {
	for _, wrong := range []int{-1, 20, math.MinInt, math.MaxInt} {
		d, c := begun(t, 20, 8)
		writes(t, c, api.ClMeta, 1, 2)
		ok(t, "Pin", c.Pin(3))
		for _, row := range [][]int{{wrong}, {1, 2, 3, wrong}, {wrong, 1, 2, 3}, {1, wrong, 2, wrong}} {
			is(t, "Forget", c.Forget(row...), api.ErrArg)
			holds(t, c, 20, 1, 2, 3)
			dirty(t, c, api.ClMeta, 1, 2)
			is(t, "Pins", c.Pins(3), 1)
		}
		d.seen(t, ask{"read", 3})
	}
}

func TestP104Dirty(t *testing.T) {
	_, c := begun(t, 20, 8)
	for class := -1; class < 4; class++ {
		dirty(t, c, class)
	}
	writes(t, c, api.ClData, 12, 3, 7)
	writes(t, c, api.ClMeta, 19, 0)
	reads(t, c, 5, numbered(5))
	ok(t, "Pin", c.Pin(7))
	ok(t, "Pin", c.Pin(6))
	dirty(t, c, api.ClData, 3, 7, 12)
	dirty(t, c, api.ClMeta, 0, 19)
	for _, class := range []int{math.MinInt, -1, 0, 3, math.MaxInt} {
		dirty(t, c, class)
	}
	// One that was left early begins anew.
	both := []iter.Seq[int]{c.Dirty(api.ClData), c.Dirty(api.ClMeta)}
	for n := range 4 {
		var l []int
		for block := range both[0] {
			if len(l) == n {
				break
			}
			l = append(l, block)
		}
		is(t, "left early", slices.Equal(l, []int{3, 7, 12}[:n]), true)
	}
	// Whatever comes to be since: it tells what was there when it was asked for, each time.
	for block := range both[0] {
		ok(t, "Write", c.Write(block, fill(1), api.ClMeta))
		ok(t, "Clean", c.Clean(19))
	}
	writes(t, c, api.ClData, 4)
	ok(t, "Forget", c.Forget(0, 3))
	for range 2 {
		is(t, "asked earlier", slices.Equal(slices.Collect(both[0]), []int{3, 7, 12}), true)
		is(t, "asked earlier", slices.Equal(slices.Collect(both[1]), []int{0, 19}), true)
	}
	dirty(t, c, api.ClData, 4)
	dirty(t, c, api.ClMeta, 7, 12)
}

func TestP104HasPinsLen(t *testing.T) {
	d, c := begun(t, 20, 8)
	is(t, "Len", c.Len(), 0)
	reads(t, c, 4, numbered(4))
	writes(t, c, api.ClMeta, 5)
	ok(t, "Pin", c.Pin(6))
	ok(t, "Pin", c.Pin(6))
	holds(t, c, 20, 4, 5, 6)
	for block := range 20 {
		want := 0
		if block == 6 {
			want = 2
		}
		is(t, "Pins", c.Pins(block), want)
	}
	// To ask makes no buffer, and does not ask the disk.
	holds(t, c, 20, 4, 5, 6)
	d.seen(t, ask{"read", 4}, ask{"read", 6})
	ok(t, "Forget", c.Forget(6, 5, 4))
	holds(t, c, 20)
}

package disk_test

import (
	"bytes"
	"math"
	"slices"
	"testing"

	"slipway/api"
	"slipway/disk"
	"slipway/ftl"
	"slipway/nand"
)

// other is a disk of another make: it hands out its own bytes, and keeps in mind what it was asked for.
type other struct {
	size    int
	sectors [][]byte
	fault   map[int]api.Errno
	asked   []int
	changed int
}

func (o *other) Size() int { return o.size }

func (o *other) Read(sector int) ([]byte, api.Errno) {
	o.asked = append(o.asked, sector)
	if e := o.fault[sector]; e != api.OK {
		return []byte("beside an error"), e
	}
	if sector < 0 || sector >= len(o.sectors) {
		return nil, api.ErrArg
	}
	return o.sectors[sector], api.OK
}

func (o *other) Write(int, []byte) api.Errno {
	o.changed++
	return api.OK
}

func (o *other) Flush() api.Errno {
	o.changed++
	return api.OK
}

// broken is a disk whose calls panic if it is nil.
type broken struct{ sectors [][]byte }

func (b *broken) Size() int                           { return len(b.sectors) }
func (b *broken) Read(sector int) ([]byte, api.Errno) { return b.sectors[sector], api.OK }
func (b *broken) Write(int, []byte) api.Errno         { return api.OK }
func (b *broken) Flush() api.Errno                    { return api.OK }

// plain is a disk that is no pointer.
type plain [2][]byte

func (p plain) Size() int                           { return len(p) }
func (p plain) Read(sector int) ([]byte, api.Errno) { return p[sector], api.OK }
func (p plain) Write(int, []byte) api.Errno         { return api.OK }
func (p plain) Flush() api.Errno                    { return api.OK }

func has(t *testing.T, d api.Disk, want [][]byte) {
	t.Helper()
	image, e := disk.Image(d)
	if e != api.OK || !slices.EqualFunc(image, want, bytes.Equal) {
		t.Fatalf("Image: %d, %d sectors that are not the %d ones", e, len(image), len(want))
	}
}

func lacks(t *testing.T, d api.Disk, want api.Errno) {
	t.Helper()
	image, e := disk.Image(d)
	if e != want || image != nil {
		t.Fatalf("Image: %d, %d sectors, not %d", e, len(image), want)
	}
	for _, x := range []api.Disk{d, &other{}} {
		is(t, "Same", disk.Same(d, x), false)
		is(t, "Same", disk.Same(x, d), false)
	}
}

func TestP94Image(t *testing.T) {
	var s stream = 21
	for _, n := range []int{1, 2, 100, api.MaxSectors} {
		image := s.image(n)
		d := fresh(t, n)
		for i, b := range image {
			writes(t, d, i, b, api.OK)
		}
		has(t, d, image)
		d.CutAfter(0)
		has(t, d, image)
		is(t, "Writes", d.Writes(), int64(n))
	}
}

func TestP94ImageNone(t *testing.T) {
	var empty api.Disk
	lacks(t, nil, api.ErrMade)
	lacks(t, empty, api.ErrMade)
	var none *disk.RAM
	lacks(t, none, api.ErrMade)
	lacks(t, &disk.RAM{}, api.ErrMade)
	var flash *ftl.Ftl
	lacks(t, flash, api.ErrMade)
	var nothing *broken
	lacks(t, nothing, api.ErrMade)
	for _, sector := range []int{0, 1, 3} {
		d := fresh(t, 4)
		d.Hurt(sector)
		lacks(t, d, api.ErrIo)
		writes(t, d, sector, fill(0), api.OK)
		has(t, d, [][]byte{fill(0), fill(0), fill(0), fill(0)})
	}
	d := off(t)
	lacks(t, d, api.ErrPower)
	d.Restart()
	lacks(t, d, api.ErrIo)
}

func TestP94ImageOther(t *testing.T) {
	var s stream = 22
	image := s.image(5)
	o := &other{size: 5, sectors: image}
	has(t, o, image)
	is(t, "asked", slices.Equal(o.asked, []int{0, 1, 2, 3, 4}), true)
	is(t, "changed", o.changed, 0)
	has(t, plain{image[1], image[3]}, [][]byte{image[1], image[3]})
	// More sectors than a *RAM may have, and bytes as many as that make has.
	long := slices.Repeat([][]byte{{1, 2, 3}, nil, make([]byte, 400)}, 5000)
	has(t, &other{size: len(long), sectors: long}, long)
	// A disk without sectors has an image of none.
	for _, size := range []int{0, -1, math.MinInt} {
		has(t, &other{size: size}, nil)
		has(t, &other{size: size, sectors: image}, nil)
		has(t, &other{size: size, fault: map[int]api.Errno{0: api.ErrArg}}, nil)
	}
}

// The first error ends it, whatever comes behind.
func TestP94ImageFirstError(t *testing.T) {
	var s stream = 23
	for _, e := range []api.Errno{api.ErrIo, api.ErrPower, api.ErrMade, api.ErrArg, 999, -1} {
		for sector := range 5 {
			o := &other{size: 5, sectors: s.image(5), fault: map[int]api.Errno{sector: e, 4: api.ErrOnly}}
			want := o.fault[sector]
			lacks(t, o, want)
			is(t, "asked", slices.Equal(o.asked[:sector+1], []int{0, 1, 2, 3, 4}[:sector+1]), true)
			is(t, "asked again", len(o.asked) == sector+1 || o.asked[sector+1] == 0, true)
			is(t, "changed", o.changed, 0)
		}
	}
	// One that says that it has more sectors than there can be.
	o := &other{size: math.MaxInt, sectors: s.image(3)}
	image, e := disk.Image(o)
	is(t, "Image", e, api.ErrArg)
	is(t, "Image", image == nil, true)
	is(t, "asked", slices.Equal(o.asked, []int{0, 1, 2, 3}), true)
}

func TestP94ImageFlash(t *testing.T) {
	var s stream = 24
	c, e := nand.New(api.Geometry{Blocks: 16, Pages: 4}, nil)
	is(t, "New", e, api.OK)
	is(t, "Format", ftl.Format(c, 2, 2), api.OK)
	f, e := ftl.Mount(c, 2, 2)
	is(t, "Mount", e, api.OK)
	d := fresh(t, f.Size())
	is(t, "Same", disk.Same(f, d), true)
	for range 100 {
		sector, b := s.below(f.Size()), s.bytes(api.PageLen)
		writes(t, f, sector, b, api.OK)
		is(t, "Same", disk.Same(f, d), disk.Same(d, f))
		writes(t, d, sector, b, api.OK)
		is(t, "Same", disk.Same(f, d), true)
		is(t, "Same", disk.Same(d, f), true)
	}
}

func TestP94Same(t *testing.T) {
	var s stream = 25
	image := s.image(6)
	a, _ := disk.Of(image...)
	b, _ := disk.Of(image...)
	same := func(want bool) {
		t.Helper()
		is(t, "Same", disk.Same(a, b), want)
		is(t, "Same", disk.Same(b, a), want)
		is(t, "Same", disk.Same(a, a), true)
	}
	same(true)
	is(t, "Same", disk.Same(a, &other{size: 6, sectors: image}), true)
	// How it came to it, and what is to come, is nothing of it.
	writes(t, b, 0, image[0], api.OK)
	b.CutAfter(0)
	same(true)
	b.Restart()
	for sector := range image {
		for _, at := range []int{0, 1, 100, api.PageLen - 1} {
			odd := bytes.Clone(image[sector])
			odd[at] ^= 1 << (at % 8)
			writes(t, b, sector, odd, api.OK)
			same(false)
		}
		writes(t, b, sector, image[sector], api.OK)
		same(true)
		b.Hurt(sector)
		same(false)
		is(t, "Same", disk.Same(b, b), false)
		writes(t, b, sector, image[sector], api.OK)
	}
	b.CutAfter(0)
	writes(t, b, 0, image[0], api.ErrPower)
	same(false)
	is(t, "Same", disk.Same(b, b), false)
	b.Restart()
	same(true)
}

// Disks of which one goes on where the other ends are not the same.
func TestP94SameLengths(t *testing.T) {
	for n := 1; n < 6; n++ {
		for m := 1; m < 6; m++ {
			is(t, "Same", disk.Same(fresh(t, n), fresh(t, m)), n == m)
		}
		is(t, "Same", disk.Same(fresh(t, n), &other{}), false)
		is(t, "Same", disk.Same(&other{}, fresh(t, n)), false)
		is(t, "Same", disk.Same(fresh(t, n), nil), false)
		is(t, "Same", disk.Same(nil, fresh(t, n)), false)
	}
	is(t, "Same", disk.Same(nil, nil), false)
	is(t, "Same", disk.Same(&other{}, &other{}), true)
	// The bytes run on, but the sectors do not begin at the same places.
	a, b := plain{fill(0), {1, 2}}, plain{append(fill(0), 1), {2}}
	is(t, "Same", disk.Same(a, b), false)
}

package disk_test

import (
	"bytes"
	"math"
	"slices"
	"testing"

	"slipway/api"
	"slipway/disk"
)

// stream is a row of numbers that is the same each time.
type stream uint64

func (s *stream) next() uint64 {
	*s = *s*6364136223846793005 + 1442695040888963407
	return uint64(*s >> 33)
}

func (s *stream) below(n int) int { return int(s.next() % uint64(n)) }

func (s *stream) bytes(n int) []byte {
	b := make([]byte, n)
	for i := range b {
		b[i] = byte(s.next())
	}
	return b
}

func (s *stream) image(sectors int) [][]byte {
	image := make([][]byte, sectors)
	for i := range image {
		image[i] = s.bytes(api.PageLen)
	}
	return image
}

func fill(b byte) []byte { return bytes.Repeat([]byte{b}, api.PageLen) }

// numbered is bytes that tell which write they are.
func numbered(n int) []byte {
	s := stream(n)
	b := s.bytes(api.PageLen)
	b[0], b[1], b[2] = byte(n), byte(n>>8), byte(n>>16)
	return b
}

// is holds what was answered against what is asked for.
func is[T comparable](t *testing.T, what string, got, want T) {
	t.Helper()
	if got != want {
		t.Fatalf("%s: %v, not %v", what, got, want)
	}
}

func fresh(t *testing.T, sectors int) *disk.RAM {
	t.Helper()
	d, e := disk.New(sectors)
	if e != api.OK || d == nil {
		t.Fatalf("New(%d): %v, %d", sectors, d, e)
	}
	return d
}

func reads(t *testing.T, d api.Disk, sector int, want []byte) {
	t.Helper()
	b, e := d.Read(sector)
	if e != api.OK || !bytes.Equal(b, want) {
		t.Fatalf("Read(%d): %d, %x, not %x", sector, e, b, want)
	}
}

// fails is a read that answers an error and nothing else.
func fails(t *testing.T, d api.Disk, sector int, want api.Errno) {
	t.Helper()
	b, e := d.Read(sector)
	if e != want || b != nil {
		t.Fatalf("Read(%d): %d, %x, not %d", sector, e, b, want)
	}
}

func writes(t *testing.T, d api.Disk, sector int, b []byte, want api.Errno) {
	t.Helper()
	if e := d.Write(sector, b); e != want {
		t.Fatalf("Write(%d, %d bytes): %d, not %d", sector, len(b), e, want)
	}
}

// noted is a write as a log tells it.
type noted struct {
	sector int
	data   string
}

func logged(d *disk.RAM) []noted {
	var l []noted
	for sector, b := range d.Log() {
		l = append(l, noted{sector, string(b)})
	}
	return l
}

func TestP91New(t *testing.T) {
	for _, n := range []int{0, -1, api.MaxSectors + 1, math.MinInt, math.MaxInt} {
		d, e := disk.New(n)
		if d != nil || e != api.ErrArg {
			t.Errorf("New(%d): %v, %d", n, d, e)
		}
	}
	for _, n := range []int{1, 2, 100, api.MaxSectors} {
		d := fresh(t, n)
		is(t, "Size", d.Size(), n)
		is(t, "On", d.On(), true)
		is(t, "Writes", d.Writes(), 0)
		is(t, "Log", len(logged(d)), 0)
		is(t, "Flush", d.Flush(), api.OK)
		for sector := range n {
			reads(t, d, sector, fill(0))
		}
		// The power is not to be cut.
		for i := range 3000 {
			writes(t, d, i%n, fill(1), api.OK)
		}
	}
}

func TestP91Of(t *testing.T) {
	var s stream = 1
	for _, n := range []int{1, 2, 100, api.MaxSectors} {
		image := s.image(n)
		d, e := disk.Of(image...)
		is(t, "Of", e, api.OK)
		is(t, "Size", d.Size(), n)
		is(t, "On", d.On(), true)
		is(t, "Writes", d.Writes(), 0)
		is(t, "Log", len(logged(d)), 0)
		for sector, b := range image {
			reads(t, d, sector, b)
		}
		fails(t, d, n, api.ErrArg)
		for i := range 2000 {
			writes(t, d, i%n, fill(1), api.OK)
		}
	}
}

func TestP91OfWrong(t *testing.T) {
	var s stream = 2
	wrong := func(image ...[]byte) {
		t.Helper()
		if d, e := disk.Of(image...); d != nil || e != api.ErrArg {
			t.Errorf("Of(%d sectors): %v, %d", len(image), d, e)
		}
	}
	wrong()
	wrong([][]byte{}...)
	wrong(s.image(api.MaxSectors + 1)...)
	wrong(make([][]byte, api.MaxSectors+1)...)
	for _, odd := range [][]byte{nil, {}, {1}, s.bytes(api.PageLen - 1), s.bytes(api.PageLen + 1), s.bytes(2 * api.PageLen)} {
		wrong(odd)
		for i := range 3 {
			image := s.image(3)
			image[i] = odd
			wrong(image...)
		}
	}
}

func TestP92ReadAndWrite(t *testing.T) {
	for _, n := range []int{1, 2, 7, api.MaxSectors} {
		d := fresh(t, n)
		for _, sector := range []int{-1, n, n + 1, math.MinInt, math.MaxInt} {
			fails(t, d, sector, api.ErrArg)
			writes(t, d, sector, fill(1), api.ErrArg)
			writes(t, d, sector, nil, api.ErrArg)
		}
		for _, sector := range []int{0, n - 1} {
			for _, b := range [][]byte{nil, {}, {1}, fill(1)[1:], append(fill(1), 1), make([]byte, 2*api.PageLen)} {
				writes(t, d, sector, b, api.ErrArg)
			}
			reads(t, d, sector, fill(0))
			writes(t, d, sector, numbered(sector+1), api.OK)
			reads(t, d, sector, numbered(sector+1))
			writes(t, d, sector, numbered(sector+2), api.OK)
			is(t, "Flush", d.Flush(), api.OK)
			reads(t, d, sector, numbered(sector+2))
			writes(t, d, sector, fill(0), api.OK)
		}
		is(t, "On", d.On(), true)
	}
}

// A write is seen in its own sector alone.
func TestP92OneSector(t *testing.T) {
	var s stream = 3
	image := s.image(9)
	d, _ := disk.Of(image...)
	for range 50 {
		sector := s.below(9)
		image[sector] = s.bytes(api.PageLen)
		writes(t, d, sector, image[sector], api.OK)
		for i, b := range image {
			reads(t, d, i, b)
		}
	}
}

// off is a disk of 4 sectors without power: sector 1 is written, sector 2 hurt.
func off(t *testing.T) *disk.RAM {
	t.Helper()
	d := fresh(t, 4)
	writes(t, d, 1, fill(1), api.OK)
	is(t, "Hurt", d.Hurt(2), api.OK)
	d.CutAfter(0)
	writes(t, d, 3, fill(3), api.ErrPower)
	is(t, "On", d.On(), false)
	return d
}

func TestP92WithoutPower(t *testing.T) {
	d := off(t)
	for _, sector := range []int{-1, 0, 1, 2, 3, 4, math.MinInt, math.MaxInt} {
		fails(t, d, sector, api.ErrPower)
		for _, b := range [][]byte{nil, fill(9)[1:], fill(9), append(fill(9), 9)} {
			writes(t, d, sector, b, api.ErrPower)
		}
	}
	is(t, "Flush", d.Flush(), api.ErrPower)
	is(t, "Size", d.Size(), 4)
	is(t, "Writes", d.Writes(), 1)
	is(t, "Log", slices.Equal(logged(d), []noted{{1, string(fill(1))}}), true)
	d.Restart()
	reads(t, d, 0, fill(0))
	reads(t, d, 1, fill(1))
	fails(t, d, 2, api.ErrIo)
	reads(t, d, 3, fill(0))
}

func TestP92Hurt(t *testing.T) {
	d := fresh(t, 4)
	writes(t, d, 2, fill(2), api.OK)
	is(t, "Hurt", d.Hurt(2), api.OK)
	is(t, "Hurt", d.Hurt(2), api.OK)
	fails(t, d, 2, api.ErrIo)
	fails(t, d, 2, api.ErrIo)
	reads(t, d, 1, fill(0))
	reads(t, d, 3, fill(0))
	is(t, "Flush", d.Flush(), api.OK)
	// A write that may not be does not heal it, nor one that cuts the power.
	writes(t, d, 2, fill(3)[1:], api.ErrArg)
	writes(t, d, 1, fill(3), api.OK)
	fails(t, d, 2, api.ErrIo)
	d.CutAfter(0)
	writes(t, d, 2, fill(3), api.ErrPower)
	fails(t, d, 2, api.ErrPower)
	d.Restart()
	fails(t, d, 2, api.ErrIo)
	writes(t, d, 2, fill(4), api.OK)
	reads(t, d, 2, fill(4))
	is(t, "Hurt", d.Hurt(2), api.OK)
	fails(t, d, 2, api.ErrIo)
}

// A write that is refused is none that was done, and none that is left.
func TestP92Refused(t *testing.T) {
	refused := func(d *disk.RAM) {
		t.Helper()
		writes(t, d, -1, fill(9), api.ErrArg)
		writes(t, d, 4, fill(9), api.ErrArg)
		writes(t, d, 0, nil, api.ErrArg)
		writes(t, d, 0, fill(9)[1:], api.ErrArg)
		writes(t, d, 0, append(fill(9), 9), api.ErrArg)
	}
	d := fresh(t, 4)
	d.CutAfter(2)
	refused(d)
	writes(t, d, 0, fill(1), api.OK)
	refused(d)
	is(t, "Writes", d.Writes(), 1)
	writes(t, d, 1, fill(2), api.OK)
	// None is left: what may not be is not what cuts the power.
	refused(d)
	is(t, "On", d.On(), true)
	reads(t, d, 0, fill(1))
	is(t, "Flush", d.Flush(), api.OK)
	writes(t, d, 2, fill(3), api.ErrPower)
	is(t, "On", d.On(), false)
	is(t, "Writes", d.Writes(), 2)
	want := []noted{{0, string(fill(1))}, {1, string(fill(2))}}
	is(t, "Log", slices.Equal(logged(d), want), true)
	d.Restart()
	refused(d)
	is(t, "Writes", d.Writes(), 2)
	is(t, "Log", slices.Equal(logged(d), want), true)
	reads(t, d, 2, fill(0))
}

func TestP93CutAfter(t *testing.T) {
	for _, n := range []int{0, 1, 2, 5} {
		d := fresh(t, 4)
		writes(t, d, 0, fill(9), api.OK)
		d.CutAfter(n)
		is(t, "On", d.On(), true)
		for i := range n {
			writes(t, d, 1, fill(byte(i+1)), api.OK)
			reads(t, d, 1, fill(byte(i+1)))
			is(t, "Flush", d.Flush(), api.OK)
			is(t, "On", d.On(), true)
		}
		reads(t, d, 0, fill(9))
		writes(t, d, 0, fill(8), api.ErrPower)
		is(t, "On", d.On(), false)
		writes(t, d, 0, fill(8), api.ErrPower)
		is(t, "Writes", d.Writes(), int64(n+1))
		d.Restart()
		reads(t, d, 0, fill(9))
		reads(t, d, 1, fill(byte(n)))
	}
}

func TestP93CutAfterNever(t *testing.T) {
	for _, n := range []int{-1, -2, math.MinInt, math.MaxInt, math.MaxInt - 1} {
		for _, ahead := range []int{-1, 0, 1, 3} {
			d := fresh(t, 2)
			d.CutAfter(ahead)
			d.CutAfter(n)
			for i := range 3000 {
				writes(t, d, 1, numbered(i), api.OK)
			}
			reads(t, d, 1, numbered(2999))
			is(t, "On", d.On(), true)
			is(t, "Writes", d.Writes(), 3000)
		}
	}
}

// Of two calls in a row the last one counts, from its own time on.
func TestP93CutAfterTwice(t *testing.T) {
	for _, first := range []int{-1, 0, 1, 2, math.MaxInt} {
		for _, between := range []int{0, 1} {
			for _, second := range []int{0, 1, 2} {
				d := fresh(t, 2)
				d.CutAfter(first)
				if first == 0 && between == 1 {
					continue
				}
				for range between {
					writes(t, d, 0, fill(7), api.OK)
				}
				d.CutAfter(second)
				for range second {
					writes(t, d, 1, fill(1), api.OK)
				}
				writes(t, d, 1, fill(2), api.ErrPower)
				is(t, "On", d.On(), false)
			}
		}
	}
}

func TestP93CutAfterWithoutPower(t *testing.T) {
	for _, n := range []int{math.MinInt, -1, 0, 1, 5, math.MaxInt} {
		d := off(t)
		d.CutAfter(n)
		is(t, "On", d.On(), false)
		writes(t, d, 0, fill(1), api.ErrPower)
		fails(t, d, 0, api.ErrPower)
		is(t, "Flush", d.Flush(), api.ErrPower)
		// A restart leaves nothing of it.
		d.Restart()
		for i := range 20 {
			writes(t, d, i%4, fill(1), api.OK)
		}
	}
}

func TestP93Restart(t *testing.T) {
	d := fresh(t, 3)
	writes(t, d, 0, fill(1), api.OK)
	is(t, "Hurt", d.Hurt(1), api.OK)
	d.CutAfter(1)
	// With the power on: none is to be cut any more.
	d.Restart()
	is(t, "On", d.On(), true)
	for i := range 10 {
		writes(t, d, 2, fill(byte(i)), api.OK)
	}
	reads(t, d, 0, fill(1))
	fails(t, d, 1, api.ErrIo)
	is(t, "Writes", d.Writes(), 11)
	is(t, "Log", len(logged(d)), 11)
	// And without it, twice.
	d.CutAfter(0)
	writes(t, d, 0, fill(2), api.ErrPower)
	d.Restart()
	d.Restart()
	is(t, "On", d.On(), true)
	is(t, "Flush", d.Flush(), api.OK)
	reads(t, d, 0, fill(1))
	reads(t, d, 2, fill(9))
	fails(t, d, 1, api.ErrIo)
	is(t, "Writes", d.Writes(), 11)
	for range 10 {
		writes(t, d, 0, fill(3), api.OK)
	}
}

func TestP93Hurt(t *testing.T) {
	for _, power := range []bool{true, false} {
		d := fresh(t, 3)
		if !power {
			d.CutAfter(0)
			writes(t, d, 0, fill(1), api.ErrPower)
		}
		for _, sector := range []int{-1, 3, 4, math.MinInt, math.MaxInt} {
			is(t, "Hurt", d.Hurt(sector), api.ErrArg)
		}
		for sector := range 3 {
			is(t, "Hurt", d.Hurt(sector), api.OK)
		}
		is(t, "On", d.On(), power)
		is(t, "Writes", d.Writes(), 0)
		is(t, "Log", len(logged(d)), 0)
		d.Restart()
		for sector := range 3 {
			fails(t, d, sector, api.ErrIo)
		}
	}
}

func TestP93Writes(t *testing.T) {
	var s stream = 4
	for range 5 {
		d, _ := disk.Of(s.image(5)...)
		n := int64(0)
		for range 2000 {
			if d.Write(s.below(7)-1, s.bytes(api.PageLen-1+s.below(2))) == api.OK {
				n++
			}
			switch s.below(20) {
			case 0:
				d.CutAfter(s.below(5))
			case 1:
				d.Restart()
			case 2:
				d.Hurt(s.below(5))
			case 3:
				d.Flush()
			}
			is(t, "Writes", d.Writes(), n)
		}
	}
}

func TestP93Log(t *testing.T) {
	d := fresh(t, 6)
	var all []noted
	ends := []int{0, 1, 2, 1022, 1023, 1024, 1025, 1026, 2047, 2048, 2049, 3000, 4097}
	for _, n := range ends {
		for i := len(all); i < n; i++ {
			w := noted{i * i % 6, string(numbered(i))}
			all = append(all, w)
			writes(t, d, w.sector, []byte(w.data), api.OK)
		}
		want := all[max(0, n-1024):]
		if !slices.Equal(logged(d), want) {
			t.Fatalf("behind %d writes the log tells %d others", n, len(logged(d)))
		}
		is(t, "Writes", d.Writes(), int64(n))
	}
}

// What Log tells is not what stands in the sectors later.
func TestP93LogOfOneSector(t *testing.T) {
	d := fresh(t, 1)
	for i := range 5 {
		writes(t, d, 0, fill(byte(i)), api.OK)
	}
	d.Hurt(0)
	d.CutAfter(0)
	writes(t, d, 0, fill(9), api.ErrPower)
	n := 0
	for sector, b := range d.Log() {
		is(t, "sector", sector, 0)
		is(t, "bytes", string(b), string(fill(byte(n))))
		n++
	}
	is(t, "writes", n, 5)
}

func TestP93LogLeftEarly(t *testing.T) {
	for _, n := range []int{1, 2, 1023, 1024, 1025, 1500} {
		d := fresh(t, 3)
		for i := range n {
			writes(t, d, i%3, numbered(i), api.OK)
		}
		first := max(0, n-1024)
		log := d.Log()
		for _, stop := range []int{1, min(n, 2), min(n, 1023), min(n, 1024)} {
			i := first
			for sector, b := range log {
				is(t, "sector", sector, i%3)
				is(t, "bytes", string(b), string(numbered(i)))
				i++
				if i == first+stop {
					break
				}
			}
			is(t, "writes", i, first+stop)
		}
	}
}

// An iterator tells what was there when it was asked for.
func TestP93LogOfThen(t *testing.T) {
	for _, n := range []int{0, 1, 700, 1023, 1024, 1025, 1500} {
		d := fresh(t, 3)
		for i := range n {
			writes(t, d, i%3, numbered(i), api.OK)
		}
		log, want := d.Log(), logged(d)
		is(t, "writes", len(want), min(n, 1024))
		tell := func() {
			t.Helper()
			var got []noted
			for sector, b := range log {
				got = append(got, noted{sector, string(b)})
				// Also not what is written in the midst of a range.
				writes(t, d, 0, fill(0xee), api.OK)
			}
			is(t, "the same", slices.Equal(got, want), true)
		}
		tell()
		for _, more := range []int{1, 300, 1024, 2000} {
			for range more {
				writes(t, d, 2, fill(0xdd), api.OK)
			}
			tell()
		}
	}
}

func TestP93Clone(t *testing.T) {
	d := fresh(t, 4)
	for i := range 1030 {
		writes(t, d, i%3, numbered(i), api.OK)
	}
	d.Hurt(1)
	d.CutAfter(2)
	c := d.Clone()
	for _, x := range []*disk.RAM{c, d} {
		is(t, "Size", x.Size(), 4)
		is(t, "On", x.On(), true)
		is(t, "Writes", x.Writes(), 1030)
		is(t, "Log", slices.Equal(logged(x), logged(d)), true)
		reads(t, x, 0, numbered(1029))
		fails(t, x, 1, api.ErrIo)
		reads(t, x, 2, numbered(1028))
		reads(t, x, 3, fill(0))
		// So many writes are left in each.
		writes(t, x, 3, fill(1), api.OK)
		writes(t, x, 3, fill(2), api.OK)
		writes(t, x, 3, fill(3), api.ErrPower)
		is(t, "Writes", x.Writes(), 1032)
	}
	gone := d.Clone()
	is(t, "On", gone.On(), false)
	fails(t, gone, 0, api.ErrPower)
	gone.Restart()
	reads(t, gone, 3, fill(2))
	is(t, "On", d.On(), false)
}

// A disk that no call made.
func TestR5(t *testing.T) {
	for name, d := range map[string]*disk.RAM{"nil": nil, "zero": {}} {
		t.Run(name, func(t *testing.T) {
			is(t, "Size", d.Size(), 0)
			for _, sector := range []int{-1, 0, 1, math.MaxInt} {
				fails(t, d, sector, api.ErrMade)
				writes(t, d, sector, fill(1), api.ErrMade)
				writes(t, d, sector, nil, api.ErrMade)
				is(t, "Hurt", d.Hurt(sector), api.ErrMade)
			}
			is(t, "Flush", d.Flush(), api.ErrMade)
			for _, n := range []int{-1, 0, 1, math.MaxInt} {
				d.CutAfter(n)
				writes(t, d, 0, fill(1), api.ErrMade)
			}
			is(t, "On", d.On(), false)
			d.Restart()
			is(t, "On", d.On(), false)
			is(t, "Flush", d.Flush(), api.ErrMade)
			is(t, "Writes", d.Writes(), 0)
			is(t, "Log", len(logged(d)), 0)
			if c := d.Clone(); c != nil {
				t.Error("Clone", c)
			}
			image, e := disk.Image(d)
			is(t, "Image", e, api.ErrMade)
			is(t, "Image", image == nil, true)
			is(t, "Same", disk.Same(d, d), false)
		})
	}
}

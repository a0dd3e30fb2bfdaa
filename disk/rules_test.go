package disk_test

import (
	"bytes"
	"math"
	"slices"
	"testing"
	"time"

	"slipway/api"
	"slipway/disk"
)

var _ api.Disk = (*disk.RAM)(nil)

// Whatever numbers and bytes are handed in: each call ends, and none panics.
func TestR1(t *testing.T) {
	numbers := []int{math.MinInt, math.MinInt32, -256, -1, 0, 1, 2, 255, 256, 257, 8191, 8192, 8193, math.MaxInt32, math.MaxInt}
	for _, size := range numbers {
		d, e := disk.New(size)
		is(t, "New", d == nil, e != api.OK)
		disk.Of(make([][]byte, max(0, size)%10000)...)
		for _, n := range numbers {
			d.CutAfter(n)
			for _, length := range []int{0, 1, 255, 256, 257, 70000} {
				d.Write(n, make([]byte, length))
			}
			b, e := d.Read(n)
			is(t, "Read", b == nil, e != api.OK)
			d.Hurt(n)
			d.Flush()
			d.Restart()
		}
		disk.Image(d)
		disk.Same(d, d.Clone())
	}
}

// A call that is refused changes nothing.
func TestR2(t *testing.T) {
	var s stream = 31
	image := s.image(4)
	d, _ := disk.Of(image...)
	writes(t, d, 3, image[3], api.OK)
	d.CutAfter(1)
	for _, sector := range []int{-1, 4, math.MinInt, math.MaxInt} {
		fails(t, d, sector, api.ErrArg)
		writes(t, d, sector, fill(1), api.ErrArg)
		is(t, "Hurt", d.Hurt(sector), api.ErrArg)
	}
	writes(t, d, 1, nil, api.ErrArg)
	writes(t, d, 1, make([]byte, api.PageLen+1), api.ErrArg)
	is(t, "On", d.On(), true)
	is(t, "Writes", d.Writes(), 1)
	is(t, "Log", slices.Equal(logged(d), []noted{{3, string(image[3])}}), true)
	has(t, d, image)
	writes(t, d, 1, image[1], api.OK)
	writes(t, d, 1, fill(1), api.ErrPower)
	d.Restart()
	has(t, d, image)
}

// spoil writes to all of the bytes, as their owner may.
func spoil(list ...[]byte) {
	for _, b := range list {
		for i := range b {
			b[i] ^= 0xff
		}
	}
}

func clones(image [][]byte) [][]byte {
	var l [][]byte
	for _, b := range image {
		l = append(l, bytes.Clone(b))
	}
	return l
}

// What is handed in is as it was, and may be changed by its owner behind the call.
func TestR3HandedIn(t *testing.T) {
	var s stream = 32
	image := s.image(5)
	was := clones(image)
	d, _ := disk.Of(image...)
	is(t, "written to by Of", slices.EqualFunc(image, was, bytes.Equal), true)
	spoil(image...)
	image[2] = nil
	has(t, d, was)
	for i := range 1100 {
		want := numbered(i)
		// With room behind its end, so that an append would be seen.
		b := append(bytes.Clone(want), 0xaa, 0xaa)[:api.PageLen]
		writes(t, d, i%5, b, api.OK)
		is(t, "written to by Write", string(b[:api.PageLen+2]), string(want)+"\xaa\xaa")
		spoil(b)
		reads(t, d, i%5, want)
	}
	i := 1100 - 1024
	for sector, b := range d.Log() {
		is(t, "sector", sector, i%5)
		is(t, "bytes", string(b), string(numbered(i)))
		i++
	}
	// One slice for all sectors, then for a write of another one.
	one := fill(1)
	d, _ = disk.Of(one, one, one)
	writes(t, d, 1, fill(2), api.OK)
	has(t, d, [][]byte{fill(1), fill(2), fill(1)})
	is(t, "written to", bytes.Equal(one, fill(1)), true)
}

// What is answered is nobody's else.
func TestR3Answered(t *testing.T) {
	var s stream = 33
	image := s.image(4)
	d, _ := disk.Of(image...)
	for i, b := range image {
		writes(t, d, i, b, api.OK)
	}
	log := d.Log()
	for range 3 {
		for i := range image {
			a, _ := d.Read(i)
			b, _ := d.Read(i)
			spoil(a)
			is(t, "Read", bytes.Equal(b, image[i]), true)
		}
		got, _ := disk.Image(d)
		again, _ := disk.Image(d)
		for i := range got {
			spoil(got[i])
			// No two sectors of one image share memory, not even behind their ends.
			got[i] = append(got[i], 1, 2, 3)
			for k := i + 1; k < len(got); k++ {
				is(t, "Image", bytes.Equal(got[k], image[k]), true)
			}
		}
		is(t, "Image", slices.EqualFunc(again, image, bytes.Equal), true)
		// What a range tells may be written to: neither the disk, nor what comes behind, nor another range has it.
		for _, l := range []func(func(int, []byte) bool){log, d.Log()} {
			var told [][]byte
			for sector, b := range l {
				is(t, "Log", bytes.Equal(b, image[sector]), true)
				told = append(told, b)
				spoil(told...)
				spoil(told...)
				spoil(b)
				_ = append(b, 1, 2, 3)
			}
			is(t, "Log", len(told), 4)
		}
		has(t, d, image)
	}
}

// Image's bytes are not those that a disk of another make hands out.
func TestR3AnsweredOther(t *testing.T) {
	var s stream = 34
	o := &other{size: 3, sectors: s.image(3)}
	o.sectors[2] = o.sectors[0]
	was := clones(o.sectors)
	image, e := disk.Image(o)
	is(t, "Image", e, api.OK)
	spoil(image[0])
	is(t, "Image", bytes.Equal(image[2], was[2]), true)
	is(t, "the disk", slices.EqualFunc(o.sectors, was, bytes.Equal), true)
	spoil(o.sectors[1])
	is(t, "Image", bytes.Equal(image[1], was[1]), true)
	d, _ := disk.Of(was...)
	has(t, d, was)
}

// Empty and nil lists are the same.
func TestR4(t *testing.T) {
	d := fresh(t, 2)
	is(t, "Write", d.Write(0, nil), d.Write(0, []byte{}))
	_, e := disk.Of(nil...)
	_, f := disk.Of([][]byte{}...)
	is(t, "Of", e, f)
	_, e = disk.Of(nil, fill(1))
	_, f = disk.Of([]byte{}, fill(1))
	is(t, "Of", e, f)
	is(t, "Same", disk.Same(plain{nil, {}}, plain{{}, nil}), true)
}

func TestR6(t *testing.T) {
	for seed := range 5 {
		var ends [2]*disk.RAM
		for i := range ends {
			s := stream(seed)
			p := begun(&s, t)
			for range 500 {
				p.step(t, &s)
			}
			ends[i] = p.d
		}
		is(t, "On", ends[0].On(), ends[1].On())
		is(t, "Log", slices.Equal(logged(ends[0]), logged(ends[1])), true)
		is(t, "Same", disk.Same(ends[0], ends[1]), disk.Same(ends[1], ends[1]))
	}
}

// The greatest disk, in a time that only near-linear calls can do it in.
func TestTheBound(t *testing.T) {
	begun := time.Now()
	d := fresh(t, api.MaxSectors)
	b := fill(1)
	for i := range 1 << 20 {
		if d.Write(i%api.MaxSectors, b) != api.OK {
			t.Fatal("Write", i)
		}
	}
	for i := range 1 << 20 {
		if _, e := d.Read(i % api.MaxSectors); e != api.OK {
			t.Fatal("Read", i)
		}
	}
	for range 20 {
		image, _ := disk.Image(d)
		o, _ := disk.Of(image...)
		is(t, "Same", disk.Same(o, d.Clone()), true)
		is(t, "Log", len(logged(d)), 1024)
	}
	if took := time.Since(begun); took > time.Minute {
		t.Errorf("it took %v", took)
	}
}

package cache_test

import (
	"bytes"
	"math"
	"slices"
	"testing"
	"time"

	"slipway/api"
	"slipway/cache"
	"slipway/disk"
)

// Whatever numbers and bytes are handed in: each call ends, and none panics.
func TestR1(t *testing.T) {
	numbers := []int{math.MinInt, math.MinInt32, -256, -1, 0, 1, 2, 3, 7, 8, 9, 255, 256, 1023, 1024, 1025, math.MaxInt32, math.MaxInt}
	for _, size := range []int{1, 8, 9, 300} {
		d, _ := disk.New(size)
		for _, room := range numbers {
			c, e := cache.New(d, room)
			is(t, "New", c == nil, e != api.OK)
			for _, n := range numbers {
				for _, class := range numbers {
					c.Write(n, fill(1), class)
					c.Write(class, make([]byte, max(0, n)%600), n)
					c.Sync(class)
					for range c.Dirty(class) {
						break
					}
				}
				b, e := c.Read(n)
				is(t, "Read", b == nil, e != api.OK)
				c.Pin(n)
				c.Clean(n, n)
				c.Clean(numbers...)
				c.Has(n)
				c.Pins(n)
				c.Unpin(n)
				c.Unpin(n)
				c.Forget(n)
				c.Forget(numbers...)
				c.Flush()
				c.Len()
			}
		}
	}
}

// A call that is refused changes nothing: neither the buffers, nor their order, nor the disk.
func TestR2(t *testing.T) {
	d, c := begun(t, 20, 8)
	writes(t, c, api.ClData, 0, 1)
	writes(t, c, api.ClMeta, 2, 3)
	for block := 4; block < 8; block++ {
		reads(t, c, block, numbered(block))
	}
	ok(t, "Pin", c.Pin(1))
	ok(t, "Pin", c.Pin(4))
	d.asked = nil
	d.fault[ask{"write", 0}] = api.ErrIo
	refused := map[string]api.Errno{
		"Read":    second(c.Read(20)),
		"Read 0":  second(c.Read(10)),
		"Write":   c.Write(0, fill(1), 0),
		"Write 0": c.Write(10, fill(1), api.ClMeta),
		"Pin":     c.Pin(-1),
		"Pin 0":   c.Pin(10),
		"Unpin":   c.Unpin(0),
		"Clean":   c.Clean(1, 0),
		"Clean 0": c.Clean(0, 2),
		"Sync":    c.Sync(0),
		"Sync 0":  c.Sync(api.ClData),
		"Forget":  c.Forget(0, 1, 2, 3, 4, 20),
	}
	for name, e := range refused {
		is(t, name, e == api.OK, false)
	}
	for _, a := range d.asked {
		is(t, "asked", a, ask{"write", 0})
	}
	clear(d.fault)
	holds(t, c, 20, upTo(8)...)
	dirty(t, c, api.ClData, 0, 1)
	dirty(t, c, api.ClMeta, 2, 3)
	is(t, "Pins", c.Pins(1)+c.Pins(4), 2)
	is(t, "Writes", d.Writes(), 0)
	// In the order in which they were used ahead of all that.
	for _, block := range []int{0, 5, 6, 7} {
		is(t, "Has", c.Has(block), true)
		ok(t, "Pin", c.Pin(10+block))
		is(t, "Has", c.Has(block), false)
	}
	fails(t, c, 9, api.ErrPins)
}

func second[T any](_ T, e api.Errno) api.Errno { return e }

// spoil writes to all of the bytes, as their owner may, and to those behind their end.
func spoil(b []byte) {
	b = b[:cap(b)]
	for i := range b {
		b[i] ^= 0xff
	}
}

// What is handed in is as it was, and may be changed by its owner behind the call.
func TestR3HandedIn(t *testing.T) {
	d, c := begun(t, 20, 8)
	for _, class := range []int{api.ClData, api.ClMeta, api.ClData} {
		for block := range 4 {
			want := numbered(block + 50*class)
			// With room behind its end, so that an append would be seen.
			b := append(bytes.Clone(want), 0xaa, 0xaa)[:api.PageLen]
			ok(t, "Write", c.Write(block, b, class))
			is(t, "written to by Write", string(b[:api.PageLen+2]), string(want)+"\xaa\xaa")
			spoil(b)
			reads(t, c, block, want)
			ok(t, "Clean", c.Clean(block))
			stands(t, d, block, want)
			spoil(b)
			stands(t, d, block, want)
			reads(t, c, block, want)
		}
	}
	// One slice for two blocks, and lists of blocks.
	one := fill(1)
	ok(t, "Write", c.Write(5, one, api.ClData))
	ok(t, "Write", c.Write(6, one, api.ClMeta))
	ok(t, "Write", c.Write(5, fill(2), api.ClData))
	reads(t, c, 6, fill(1))
	is(t, "written to", bytes.Equal(one, fill(1)), true)
	list := []int{6, 5, 6, 9, 5}
	ok(t, "Clean", c.Clean(list...))
	is(t, "written to by Clean", slices.Equal(list, []int{6, 5, 6, 9, 5}), true)
	ok(t, "Forget", c.Forget(list...))
	is(t, "written to by Forget", slices.Equal(list, []int{6, 5, 6, 9, 5}), true)
}

// What is answered is nobody's else: neither the cache, nor the disk, nor another answer has it.
func TestR3Answered(t *testing.T) {
	d, c := begun(t, 20, 8)
	ok(t, "Write", c.Write(1, numbered(1001), api.ClData))
	ok(t, "Write", c.Write(2, numbered(1002), api.ClMeta))
	want := [][]byte{numbered(0), numbered(1001), numbered(1002)}
	for range 3 {
		for block, w := range want {
			a, _ := c.Read(block)
			b, _ := c.Read(block)
			is(t, "Read", bytes.Equal(a, w), true)
			spoil(a)
			is(t, "Read", bytes.Equal(b, w), true)
			spoil(b)
			reads(t, c, block, w)
		}
	}
	stands(t, d, 0, numbered(0))
	ok(t, "Clean", c.Clean(1, 2))
	for block, w := range want {
		stands(t, d, block, w)
		b, _ := c.Read(block)
		spoil(b)
		stands(t, d, block, w)
		reads(t, c, block, w)
	}
	// The disk's write of one block is none of another's buffer.
	ok(t, "Write", d.RAM.Write(1, fill(9)))
	reads(t, c, 1, want[1])
}

// Two caches of one disk have their own buffers.
func TestR3TwoCaches(t *testing.T) {
	d, a := begun(t, 20, 8)
	b, e := cache.New(d, 8)
	is(t, "New", e, api.OK)
	ok(t, "Write", a.Write(1, fill(1), api.ClData))
	reads(t, b, 1, numbered(1))
	ok(t, "Pin", b.Pin(1))
	is(t, "Pins", a.Pins(1), 0)
	ok(t, "Sync", a.Sync(api.ClData))
	reads(t, b, 1, numbered(1))
	ok(t, "Forget", b.Forget(1))
	is(t, "Has", a.Has(1), true)
	reads(t, b, 1, fill(1))
}

// Empty and nil lists are the same.
func TestR4(t *testing.T) {
	d, c := begun(t, 20, 8)
	writes(t, c, api.ClMeta, 1)
	for _, list := range [][]int{nil, {}} {
		ok(t, "Clean", c.Clean(list...))
		ok(t, "Forget", c.Forget(list...))
	}
	for _, b := range [][]byte{nil, {}} {
		is(t, "Write", c.Write(1, b, api.ClMeta), api.ErrArg)
	}
	dirty(t, c, api.ClMeta, 1)
	d.seen(t)
}

// The same calls answer the same, and leave the same.
func TestR6(t *testing.T) {
	kinds := []int{doRead, doWrite, doWrite, doWrite, doPin, doUnpin, doUnpin, doClean, doSync, doForget}
	for seed := range 10 {
		var told [2][]api.Errno
		var left [2]*spy
		for i := range told {
			s := stream(seed)
			d, c := begun(t, 60, 30)
			for n := range 1000 {
				_, e := calls(c, s.deed(60, n, kinds...))
				told[i] = append(told[i], e)
			}
			left[i] = d
		}
		is(t, "answers", slices.Equal(told[0], told[1]), true)
		left[0].seen(t, left[1].asked...)
		is(t, "Same", disk.Same(left[0].RAM, left[1].RAM), true)
	}
}

// The greatest cache, in a time that only near-linear calls can do it in.
func TestTheBound(t *testing.T) {
	begunAt := time.Now()
	d, c := begun(t, api.MaxSectors, api.MaxRoom)
	b := fill(1)
	for i := range 1 << 18 {
		ok(t, "Write", c.Write(i%api.MaxSectors, b, api.ClData))
	}
	for i := range 1 << 18 {
		if _, e := c.Read(i * 7 % api.MaxSectors); e != api.OK {
			t.Fatal("Read", i)
		}
		d.asked = nil
	}
	ok(t, "Sync", c.Sync(api.ClData))
	ok(t, "Forget", c.Forget(upTo(api.MaxSectors)...))
	// All but one may not go.
	for block := range api.MaxRoom - 1 {
		ok(t, "Write", c.Write(block, b, api.ClMeta))
	}
	for i := range 1 << 14 {
		if _, e := c.Read(api.MaxRoom + i%2); e != api.OK {
			t.Fatal("Read", i)
		}
	}
	for range 100 {
		is(t, "Dirty", len(slices.Collect(c.Dirty(api.ClMeta))), api.MaxRoom-1)
	}
	long := make([]int, 1<<20)
	for i := range long {
		long[i] = i % api.MaxSectors
	}
	ok(t, "Clean", c.Clean(long...))
	ok(t, "Forget", c.Forget(long...))
	if took := time.Since(begunAt); took > time.Minute {
		t.Errorf("it took %v", took)
	}
}

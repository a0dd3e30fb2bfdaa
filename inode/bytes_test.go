package inode_test

import (
	"bytes"
	"fmt"
	"math"
	"slices"
	"testing"

	"slipway/api"
	"slipway/inode"
)

// number is n in so many bytes, the highest one first.
func number(n int64, many int) []byte {
	b := make([]byte, many)
	for i := range b {
		b[many-1-i] = byte(n >> (8 * i))
	}
	return b
}

// wire is P14.2's bytes of an inode, made without the program's help.
func wire(x api.Inode) []byte {
	b := []byte{byte(x.Kind), byte(x.Depth), byte(len(x.Root)), 0}
	b = slices.Concat(b, number(int64(x.Links), 4), number(x.Size, 8), number(int64(x.Next), 4), number(x.Gen, 4))
	for _, e := range x.Root {
		b = slices.Concat(b, number(int64(e.Logical), 3), number(int64(e.Len), 2), number(int64(e.Phys), 4))
	}
	return append(b, make([]byte, 64-len(b))...)
}

// unwire is the inode of 64 bytes, and whether they are ones that P14.2 tells of.
func unwire(b []byte) (api.Inode, bool) {
	take := func(many int) int64 {
		n := int64(0)
		for _, x := range b[:many] {
			n = n<<8 | int64(x)
		}
		b = b[many:]
		return n
	}
	x := api.Inode{Kind: int(take(1)), Depth: int(take(1))}
	many, zero := take(1), take(1)
	x.Links, x.Size, x.Next, x.Gen = int(take(4)), take(8), int(take(4)), take(4)
	if many > 4 || zero != 0 {
		return api.Inode{}, false
	}
	for range many {
		x.Root = append(x.Root, api.Extent{Logical: int(take(3)), Len: int(take(2)), Phys: int(take(4))})
	}
	for _, left := range b {
		if left != 0 {
			return api.Inode{}, false
		}
	}
	return x, mayBe(x)
}

// there fails if an inode is not encoded as these bytes, or they are not decoded as it.
func there(t *testing.T, x api.Inode, want []byte) {
	t.Helper()
	b, e := inode.Encode(x)
	if e != api.OK || !bytes.Equal(b, want) {
		t.Fatalf("Encode of %+v: % x, %v, want % x", x, b, e, want)
	}
	y, e := inode.Decode(want)
	if e != api.OK || !alike(x, y) {
		t.Fatalf("Decode of % x: %+v, %v, want %+v", want, y, e, x)
	}
}

// alike is Same without the program's help.
func alike(a, b api.Inode) bool {
	if len(a.Root) == 0 && len(b.Root) == 0 {
		a.Root, b.Root = nil, nil
	}
	return fmt.Sprint(a) == fmt.Sprint(b)
}

// nothing fails if a call did not answer this error, with the zero value beside it.
func nothing(t *testing.T, name string, x api.Inode, e, want api.Errno) {
	t.Helper()
	if e != want || !alike(x, api.Inode{}) || x.Root != nil {
		t.Fatalf("%s: %+v, %v, want %v", name, x, e, want)
	}
}

func noBytes(t *testing.T, name string, b []byte, e, want api.Errno) {
	t.Helper()
	if b != nil || e != want {
		t.Fatalf("%s: % x, %v, want %v", name, b, e, want)
	}
}

func undecoded(t *testing.T, name string, b []byte) {
	t.Helper()
	x, e := inode.Decode(b)
	nothing(t, "Decode of "+name, x, e, 140)
}

func TestP142Bytes(t *testing.T) {
	// The chapter's example.
	there(t, api.Inode{Kind: 1, Links: 1, Size: 5, Root: []api.Extent{{Len: 1, Phys: 30}}}, append([]byte{
		1, 0, 1, 0, 0, 0, 0, 1, 0, 0, 0, 0, 0, 0, 0, 5, 0, 0, 0, 0, 0, 0, 0, 0,
		0, 0, 0, 0, 1, 0, 0, 0, 30,
	}, make([]byte, 31)...))
	there(t, api.Inode{Kind: 2, Links: 0x102, Size: 0xa0bc00, Next: 0x405, Gen: 0xfedcba98, Depth: 2, Root: []api.Extent{{Logical: 0x10, Phys: 0x1102}, {Logical: 0xa0b, Phys: 3}, {Logical: 0xcdef, Phys: 0x1fff}}}, append([]byte{
		2, 2, 3, 0, 0, 0, 1, 2, 0, 0, 0, 0, 0, 0xa0, 0xbc, 0, 0, 0, 4, 5, 0xfe, 0xdc, 0xba, 0x98,
		0, 0, 0x10, 0, 0, 0, 0, 0x11, 2,
		0, 0xa, 0xb, 0, 0, 0, 0, 0, 3,
		0, 0xcd, 0xef, 0, 0, 0, 0, 0x1f, 0xff,
	}, make([]byte, 13)...))
	there(t, api.Inode{Kind: 1, Links: 1000, Size: 1 << 24, Next: 1 << 16, Gen: 1<<32 - 1, Root: []api.Extent{{Len: 0x1000, Phys: 1}, {Logical: 0x1000, Len: 0xfff, Phys: 0x1001}, {Logical: 0x2000, Len: 0x102, Phys: 0x304}, {Logical: 0xffff, Len: 1, Phys: 0x1fff}}}, []byte{
		1, 0, 4, 0, 0, 0, 3, 0xe8, 0, 0, 0, 0, 1, 0, 0, 0, 0, 1, 0, 0, 0xff, 0xff, 0xff, 0xff,
		0, 0, 0, 0x10, 0, 0, 0, 0, 1,
		0, 0x10, 0, 0x0f, 0xff, 0, 0, 0x10, 1,
		0, 0x20, 0, 1, 2, 0, 0, 3, 4,
		0, 0xff, 0xff, 0, 1, 0, 0, 0x1f, 0xff,
		0, 0, 0, 0,
	})
	there(t, api.Inode{}, make([]byte, 64))
	there(t, api.Inode{Gen: 1<<32 - 1}, append(append(make([]byte, 20), 255, 255, 255, 255), make([]byte, 40)...))
}

func TestP142EncodeOfGood(t *testing.T) {
	for _, x := range good() {
		there(t, x, wire(x))
	}
	for _, x := range []api.Inode{file(), dir()} {
		for which, edges := range [numbers][]int64{kind: {1}, links: {0, 1, 255, 256, 999, 1000}, size: {0, 256, 65536, 1<<24 - 256, 1 << 24}, next: {0, 1, 255, 256, 65535, 65536}, gen: {0, 1, 255, 65536, 1 << 24, 1 << 31, 1<<32 - 1}, depth: {}} {
			for _, n := range edges {
				there(t, with(x, which, n), wire(with(x, which, n)))
			}
		}
		for _, l := range [][]api.Extent{{{Len: 1, Phys: 1}}, {{Logical: 65535, Len: 1, Phys: 8191}}, {{Len: 4096, Phys: 4096}}, {{Logical: 61440, Len: 4096, Phys: 1}}} {
			there(t, withRoot(x, 0, l...), wire(withRoot(x, 0, l...)))
		}
		for d := 1; d <= 2; d++ {
			for _, l := range [][]api.Extent{{{Phys: 1}}, {{Logical: 65535, Phys: 8191}}, {{Logical: 0, Phys: 8191}, {Logical: 1, Phys: 8191}, {Logical: 65534, Phys: 1}, {Logical: 65535, Phys: 1}}} {
				there(t, withRoot(x, d, l...), wire(withRoot(x, d, l...)))
			}
		}
	}
}

func TestP142EncodeOfWrong(t *testing.T) {
	for _, x := range wrong() {
		b, e := inode.Encode(x)
		noBytes(t, "Encode of "+named(x), b, e, 140)
	}
}

func TestP142DecodeOfLengths(t *testing.T) {
	undecoded(t, "nil", nil)
	undecoded(t, "no bytes", []byte{})
	for _, x := range good() {
		b := wire(x)
		for n := range 64 {
			undecoded(t, "too few", b[:n])
		}
		undecoded(t, "one more", append(slices.Clone(b), 0))
		undecoded(t, "one ahead", append([]byte{0}, b...))
		undecoded(t, "twice", slices.Concat(b, b))
		undecoded(t, "a table", slices.Concat(b, b, b, b))
	}
	undecoded(t, "1s", bytes.Repeat([]byte{255}, 64))
}

// Each byte of an inode's, turned into each other one: what the bytes say then may be, or not.
func TestP142DecodeOfTurnedBytes(t *testing.T) {
	taken, refused := 0, 0
	for _, x := range good() {
		for at := range 64 {
			for value := range 256 {
				b := wire(x)
				b[at] = byte(value)
				want, ok := unwire(b)
				if !ok {
					refused++
					undecoded(t, fmt.Sprintf("% x", b), b)
					continue
				}
				taken++
				there(t, want, b)
			}
		}
	}
	if taken < 10000 || refused < 10000 {
		t.Error("too few of one sort:", taken, refused)
	}
}

// The bytes that no field has are 0: behind the count, in the entries that there are not, at the end.
func TestP142DecodeOfZeros(t *testing.T) {
	for _, x := range good() {
		holes := []int{3}
		for at := 24 + 9*len(x.Root); at < 64; at++ {
			holes = append(holes, at)
		}
		for _, at := range holes {
			for _, value := range []byte{1, 0x10, 0x80, 0xff} {
				b := wire(x)
				b[at] = value
				undecoded(t, fmt.Sprint("byte ", at), b)
			}
		}
	}
}

func TestP142DecodeOfCounts(t *testing.T) {
	for _, x := range []api.Inode{{}, {Kind: 1}, withRoot(file(), 0, extents(4)...), withRoot(dir(), 2, entries(4)...), file(), dir()} {
		for n := range 256 {
			b := wire(x)
			b[2] = byte(n)
			y, e := inode.Decode(b)
			if n == len(x.Root) {
				is(t, "Decode", alike(x, y) && e == api.OK, true)
			} else {
				nothing(t, fmt.Sprint("Decode of a count ", n), y, e, 140)
			}
		}
	}
}

// Fields that Check refuses, wherever they have room in their bits.
func TestP142DecodeOfWrong(t *testing.T) {
	many := 0
	for _, x := range wrong() {
		if len(x.Root) > 4 {
			continue
		}
		// What was cut off by its width may be another inode, which may be.
		b := wire(x)
		want, ok := unwire(b)
		if ok {
			there(t, want, b)
			continue
		}
		many++
		undecoded(t, named(x), b)
	}
	if many < 50 {
		t.Error("too few:", many)
	}
	for _, n := range []int64{math.MinInt64, math.MinInt64 + 256, -256, -1} {
		undecoded(t, "a Size with its highest bit", wire(with(file(), size, n)))
		undecoded(t, "a Size with its highest bit", wire(with(dir(), size, n)))
	}
}

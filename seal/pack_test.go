package seal_test

import (
	"bytes"
	"math"
	"slices"
	"testing"

	"slipway/api"
	"slipway/seal"
)

// repeat is a list of n widths.
func repeat(n, width int) []int { return slices.Repeat([]int{width}, n) }

// wrongWidths are lists for which Width answers ErrArg.
func wrongWidths() [][]int {
	return [][]int{
		{0}, {65}, {-1}, {-8}, {math.MaxInt}, {math.MinInt},
		{1, 0}, {0, 1}, {64, 65}, {8, -1, 8}, {8, 8, -8, 8},
		repeat(65, 1), repeat(65, 64), repeat(1000, 8),
		append(repeat(63, 8), 0), append(repeat(63, 8), 65),
	}
}

func TestP13Width(t *testing.T) {
	for _, c := range []struct {
		widths []int
		want   int
	}{
		{nil, 0},
		{[]int{}, 0},
		{[]int{1}, 1},
		{[]int{7}, 1},
		{[]int{8}, 1},
		{[]int{9}, 2},
		{[]int{64}, 8},
		{[]int{64, 1}, 9},
		{[]int{2, 6}, 1},
		{[]int{4, 12, 1, 64}, 11},
		{repeat(64, 1), 8},
		{repeat(63, 1), 8},
		{repeat(64, 64), 512},
	} {
		if got, e := seal.Width(c.widths); e != api.OK || got != c.want {
			t.Errorf("Width(%v) = %d, %v, want %d", c.widths, got, e, c.want)
		}
	}
	for _, w := range wrongWidths() {
		if got, e := seal.Width(w); e != api.ErrArg || got != 0 {
			t.Errorf("Width(%v) = %d, %v", w, got, e)
		}
	}
}

func TestP13Pack(t *testing.T) {
	for _, c := range []struct {
		widths []int
		values []uint64
		want   []byte
	}{
		{nil, nil, nil},
		{[]int{}, []uint64{}, nil},
		{[]int{2, 6}, []uint64{3, 1}, []byte{0xc1}},
		{[]int{1}, []uint64{1}, []byte{0x80}},
		{[]int{1}, []uint64{0}, []byte{0}},
		{[]int{3}, []uint64{7}, []byte{0xe0}},
		{[]int{9}, []uint64{0x101}, []byte{0x80, 0x80}},
		{[]int{64}, []uint64{math.MaxUint64}, bytes.Repeat([]byte{0xff}, 8)},
		{[]int{64}, []uint64{0x0102030405060708}, []byte{1, 2, 3, 4, 5, 6, 7, 8}},
		{[]int{1, 64}, []uint64{0, 1<<63 | 1}, []byte{0x40, 0, 0, 0, 0, 0, 0, 0, 0x80}},
		{[]int{4, 12, 1, 64}, []uint64{5, 0xabc, 1, 1<<63 | 1}, []byte{0x5a, 0xbc, 0xc0, 0, 0, 0, 0, 0, 0, 0, 0x80}},
		{[]int{7, 2, 7}, []uint64{0, 3, 0}, []byte{1, 0x80}},
		{repeat(64, 1), slices.Repeat([]uint64{1, 0}, 32), bytes.Repeat([]byte{0xaa}, 8)},
	} {
		if got, e := seal.Pack(c.widths, c.values...); e != api.OK || !bytes.Equal(got, c.want) {
			t.Errorf("Pack(%v, %v) = %x, %v, want %x", c.widths, c.values, got, e, c.want)
		}
	}
}

func TestP13PackWrong(t *testing.T) {
	for _, c := range []struct {
		widths []int
		values []uint64
	}{
		{nil, []uint64{0}},
		{[]int{1}, nil},
		{[]int{1, 1}, []uint64{1}},
		{[]int{1, 1}, []uint64{1, 1, 1}},
		{repeat(64, 1), make([]uint64, 63)},
		{repeat(64, 1), make([]uint64, 65)},
		{[]int{1}, []uint64{2}},
		{[]int{3}, []uint64{8}},
		{[]int{3}, []uint64{math.MaxUint64}},
		{[]int{8}, []uint64{1 << 63}},
		{[]int{63}, []uint64{1 << 63}},
		{[]int{64, 8, 64}, []uint64{0, 256, 0}},
		{[]int{64, 64, 8}, []uint64{0, 0, 256}},
	} {
		if got, e := seal.Pack(c.widths, c.values...); e != api.ErrArg || got != nil {
			t.Errorf("Pack(%v, %v) = %x, %v", c.widths, c.values, got, e)
		}
	}
	for _, w := range wrongWidths() {
		if got, e := seal.Pack(w, make([]uint64, len(w))...); e != api.ErrArg || got != nil {
			t.Errorf("Pack(%v) = %x, %v", w, got, e)
		}
	}
}

func TestP13Unpack(t *testing.T) {
	for _, c := range []struct {
		widths []int
		b      []byte
		want   []uint64
	}{
		{nil, nil, nil},
		{[]int{}, []byte{}, nil},
		{[]int{2, 6}, []byte{0xc1}, []uint64{3, 1}},
		{[]int{1}, []byte{0x80}, []uint64{1}},
		{[]int{9}, []byte{0x80, 0x80}, []uint64{0x101}},
		{[]int{64}, bytes.Repeat([]byte{0xff}, 8), []uint64{math.MaxUint64}},
		{[]int{4, 12, 1, 64}, []byte{0x5a, 0xbc, 0xc0, 0, 0, 0, 0, 0, 0, 0, 0x80}, []uint64{5, 0xabc, 1, 1<<63 | 1}},
		{repeat(64, 1), bytes.Repeat([]byte{0xaa}, 8), slices.Repeat([]uint64{1, 0}, 32)},
		{repeat(64, 64), bytes.Repeat([]byte{0xff}, 512), slices.Repeat([]uint64{math.MaxUint64}, 64)},
	} {
		if got, e := seal.Unpack(c.widths, c.b); e != api.OK || !slices.Equal(got, c.want) {
			t.Errorf("Unpack(%v, %x) = %v, %v, want %v", c.widths, c.b, got, e, c.want)
		}
	}
}

func TestP13UnpackWrong(t *testing.T) {
	for _, c := range []struct {
		widths []int
		b      []byte
		want   api.Errno
	}{
		{nil, []byte{0}, api.ErrLong},
		{[]int{1}, nil, api.ErrLong},
		{[]int{8}, []byte{0, 0}, api.ErrLong},
		{[]int{9}, []byte{0}, api.ErrLong},
		{[]int{9}, []byte{0, 0, 0}, api.ErrLong},
		{repeat(64, 64), make([]byte, 511), api.ErrLong},
		{repeat(64, 64), make([]byte, 513), api.ErrLong},
		{[]int{9}, []byte{0xff, 0xff, 0xff}, api.ErrLong}, // ahead of the bits behind
		{[]int{1}, []byte{0x40}, api.ErrArg},
		{[]int{1}, []byte{0x81}, api.ErrArg},
		{[]int{7}, []byte{1}, api.ErrArg},
		{[]int{9}, []byte{0, 0x40}, api.ErrArg},
		{[]int{64, 1}, []byte{0, 0, 0, 0, 0, 0, 0, 0, 1}, api.ErrArg},
		{[]int{0}, []byte{1, 2, 3}, api.ErrArg}, // Width's error ahead of the length
	} {
		if got, e := seal.Unpack(c.widths, c.b); e != c.want || got != nil {
			t.Errorf("Unpack(%v, %x) = %v, %v, want %v", c.widths, c.b, got, e, c.want)
		}
	}
	for _, w := range wrongWidths() {
		for _, b := range [][]byte{nil, {0}, make([]byte, 8), make([]byte, 520)} {
			if got, e := seal.Unpack(w, b); e != api.ErrArg || got != nil {
				t.Errorf("Unpack(%v, %d bytes) = %v, %v", w, len(b), got, e)
			}
		}
	}
}

// mixedWidths is a list of n widths from 1 to 64, made of the stream.
func mixedWidths(s *stream, n int) []int {
	widths := make([]int, n)
	for i, x := range s.bytes(n) {
		widths[i] = 1 + int(x)%64
	}
	return widths
}

func TestP14PackThereAndBack(t *testing.T) {
	var s stream = 6
	for n := range 65 {
		widths := mixedWidths(&s, n)
		values := make([]uint64, n)
		for i, w := range widths {
			for _, x := range s.bytes(8) {
				values[i] = values[i]<<8 | uint64(x)
			}
			values[i] >>= 64 - w
		}
		b, e := seal.Pack(widths, values...)
		if e != api.OK {
			t.Fatal(widths, e)
		}
		if got, e := seal.Unpack(widths, b); e != api.OK || !slices.Equal(got, values) {
			t.Errorf("%v of %v: came back as %v, %v", values, widths, got, e)
		}
	}
}

func TestP14UnpackThereAndBack(t *testing.T) {
	var s stream = 7
	for n := range 65 {
		widths := mixedWidths(&s, n)
		bits := 0
		for _, w := range widths {
			bits += w
		}
		b := s.bytes((bits + 7) / 8)
		if bits%8 != 0 {
			b[len(b)-1] &= 0xff << (8 - bits%8)
		}
		values, e := seal.Unpack(widths, b)
		if e != api.OK {
			t.Fatal(widths, e)
		}
		if got, e := seal.Pack(widths, values...); e != api.OK || !bytes.Equal(got, b) {
			t.Errorf("%x of %v: came back as %x, %v", b, widths, got, e)
		}
	}
}

// Each byte of one width is either packed from the value that it unpacks to, or refused.
func TestP14EveryByte(t *testing.T) {
	for w := 1; w <= 8; w++ {
		for x := range 256 {
			b := []byte{byte(x)}
			values, e := seal.Unpack([]int{w}, b)
			if behind := x&(1<<(8-w)-1) != 0; behind {
				if e != api.ErrArg || values != nil {
					t.Errorf("width %d, %x: %v, %v", w, b, values, e)
				}
				continue
			}
			if e != api.OK || !slices.Equal(values, []uint64{uint64(x >> (8 - w))}) {
				t.Errorf("width %d, %x: %v, %v", w, b, values, e)
			}
			if got, e := seal.Pack([]int{w}, values...); e != api.OK || !bytes.Equal(got, b) {
				t.Errorf("width %d, %x: came back as %x, %v", w, b, got, e)
			}
		}
	}
}

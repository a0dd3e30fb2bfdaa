package seal_test

import (
	"bytes"
	"testing"

	"slipway/api"
	"slipway/seal"
)

// stream gives bytes that look mixed and are the same in every run.
type stream uint64

func (s *stream) bytes(n int) []byte {
	b := make([]byte, n)
	for i := range b {
		*s = *s*6364136223846793005 + 1442695040888963407
		b[i] = byte(*s >> 56)
	}
	return b
}

func mustSeal(t *testing.T, b []byte) []byte {
	t.Helper()
	s, e := seal.Seal(b)
	if e != api.OK {
		t.Fatalf("Seal of %d bytes: %v", len(b), e)
	}
	return s
}

// zerosBitByBit counts without the program's help.
func zerosBitByBit(b []byte) int {
	n := 0
	for i := 0; i < 8*len(b); i++ {
		if b[i/8]>>(i%8)&1 == 0 {
			n++
		}
	}
	return n
}

// sealedByHand has its count behind it whatever its length is.
func sealedByHand(b []byte) []byte {
	n := zerosBitByBit(b)
	return append(bytes.Clone(b), byte(n>>24), byte(n>>16), byte(n>>8), byte(n))
}

func TestP11Zeros(t *testing.T) {
	for _, c := range []struct {
		b    []byte
		want int
	}{
		{nil, 0},
		{[]byte{}, 0},
		{[]byte{0xff}, 0},
		{[]byte{0}, 8},
		{[]byte{0xfe}, 1},
		{[]byte{0x7f}, 1},
		{[]byte{0xf0}, 4},
		{[]byte{0, 0xff, 1}, 15},
		{make([]byte, 9), 72},
	} {
		if got := seal.Zeros(c.b); got != c.want {
			t.Errorf("Zeros(%x) = %d, want %d", c.b, got, c.want)
		}
	}
	for x := range 256 {
		if b := []byte{byte(x)}; seal.Zeros(b) != zerosBitByBit(b) {
			t.Errorf("Zeros(%x) = %d", b, seal.Zeros(b))
		}
	}
	var s stream = 1
	for n := range 70 {
		if b := s.bytes(n); seal.Zeros(b) != zerosBitByBit(b) {
			t.Errorf("Zeros(%x) = %d", b, seal.Zeros(b))
		}
	}
}

func TestP11Seal(t *testing.T) {
	for _, c := range []struct{ b, want []byte }{
		{nil, []byte{0, 0, 0, 0}},
		{[]byte{}, []byte{0, 0, 0, 0}},
		{[]byte{0xf0}, []byte{0xf0, 0, 0, 0, 4}},
		{[]byte{0xff}, []byte{0xff, 0, 0, 0, 0}},
		{[]byte{0, 0xff, 1}, []byte{0, 0xff, 1, 0, 0, 0, 15}},
		{make([]byte, 33), append(make([]byte, 33), 0, 0, 1, 8)},
		{make([]byte, 1<<13+1), append(make([]byte, 1<<13+1), 0, 1, 0, 8)},
	} {
		if got, e := seal.Seal(c.b); e != api.OK || !bytes.Equal(got, c.want) {
			t.Errorf("Seal of %d bytes: %v, last bytes %x", len(c.b), e, got[max(0, len(got)-8):])
		}
	}
}

func TestP11SealLimit(t *testing.T) {
	most := make([]byte, api.MaxBytes)
	got, e := seal.Seal(most)
	if e != api.OK || !bytes.Equal(got, append(bytes.Clone(most), 0, 0x80, 0, 0)) {
		t.Errorf("MaxBytes bytes: %v, %d bytes", e, len(got))
	}
	if got, e := seal.Seal(make([]byte, api.MaxBytes+1)); e != api.ErrLong || got != nil {
		t.Errorf("one more: %v, %d bytes", e, len(got))
	}
}

// states are bytes with what State says of them.
func states() []struct {
	name string
	b    []byte
	want api.Errno
} {
	type row = struct {
		name string
		b    []byte
		want api.Errno
	}
	ones := func(n int) []byte { return bytes.Repeat([]byte{0xff}, n) }
	most := sealedByHand(make([]byte, api.MaxBytes))
	over := sealedByHand(make([]byte, api.MaxBytes+1))
	torn := bytes.Clone(most)
	torn[0] = 1
	return []row{
		{"nil", nil, api.ErrTorn},
		{"no bytes", []byte{}, api.ErrTorn},
		{"one byte", []byte{0}, api.ErrTorn},
		{"two bytes", []byte{0, 0}, api.ErrTorn},
		{"three bytes", []byte{0, 0, 0}, api.ErrTorn},
		{"nothing, sealed", []byte{0, 0, 0, 0}, api.OK},
		{"nothing, with a count", []byte{0, 0, 0, 1}, api.ErrTorn},
		{"nothing, with a high bit", []byte{0x80, 0, 0, 0}, api.ErrTorn},
		{"the chapter's example", []byte{0xf0, 0, 0, 0, 4}, api.OK},
		{"the chapter's example, torn", []byte{0xf1, 0, 0, 0, 4}, api.ErrTorn},
		{"a count too great", []byte{0xf0, 0, 0, 0, 5}, api.ErrTorn},
		{"a count too small", []byte{0xf0, 0, 0, 0, 3}, api.ErrTorn},
		{"a count with the lowest byte first", []byte{0xf0, 4, 0, 0, 0}, api.ErrTorn},
		{"a bit in each byte of the count", []byte{0xf0, 1, 0, 0, 4}, api.ErrTorn},
		{"a bit in each byte of the count", []byte{0xf0, 0, 1, 0, 4}, api.ErrTorn},
		{"a bit in each byte of the count", []byte{0xf0, 0, 0, 1, 4}, api.ErrTorn},
		{"1 bits, sealed", []byte{0xff, 0, 0, 0, 0}, api.OK},
		{"1 bits but the last one", []byte{0xff, 0xff, 0xff, 0xff, 0xfe}, api.ErrTorn},
		{"1 bits but the first one", []byte{0x7f, 0xff, 0xff, 0xff, 0xff}, api.ErrTorn},
		{"1 byte of 1 bits", ones(1), api.ErrErased},
		{"3 bytes of 1 bits", ones(3), api.ErrErased},
		{"4 bytes of 1 bits", ones(4), api.ErrErased},
		{"5 bytes of 1 bits", ones(5), api.ErrErased},
		{"MaxBytes + 4 bytes of 1 bits", ones(api.MaxBytes + 4), api.ErrErased},
		{"MaxBytes + 5 bytes of 1 bits", ones(api.MaxBytes + 5), api.ErrErased},
		{"MaxBytes + 4 bytes", most, api.OK},
		{"MaxBytes + 4 bytes, torn", torn, api.ErrTorn},
		{"MaxBytes + 5 bytes", over, api.ErrTorn},
	}
}

func TestP11State(t *testing.T) {
	for _, c := range states() {
		if got := seal.State(c.b); got != c.want {
			t.Errorf("%s: %v, want %v", c.name, got, c.want)
		}
	}
}

func TestP11Open(t *testing.T) {
	for _, c := range states() {
		got, e := seal.Open(c.b)
		if e != c.want {
			t.Errorf("%s: %v, want %v", c.name, e, c.want)
		}
		if e != api.OK && got != nil {
			t.Errorf("%s: %d bytes beside an error", c.name, len(got))
		}
		if e == api.OK && !bytes.Equal(got, c.b[:len(c.b)-4]) {
			t.Errorf("%s: %d bytes that are not those ahead", c.name, len(got))
		}
	}
}

func TestP12Mask(t *testing.T) {
	for _, c := range []struct{ b, mask, want []byte }{
		{nil, nil, nil},
		{nil, []byte{1, 2}, nil},
		{[]byte{1, 2}, nil, []byte{1, 2}},
		{[]byte{1, 2}, []byte{}, []byte{1, 2}},
		{[]byte{1, 2, 4}, []byte{8, 16}, []byte{9, 18, 12}},
		{[]byte{0, 0, 0, 0}, []byte{0x80}, []byte{0x80, 0x80, 0x80, 0x80}},
		{[]byte{0, 0, 0, 0, 0}, []byte{1, 2, 3}, []byte{1, 2, 3, 1, 2}},
		{[]byte{1, 2}, []byte{4, 8, 0xff}, []byte{5, 10}},
		{[]byte{0xf0, 0x0f}, []byte{0x3c, 0x3c}, []byte{0xfc, 0x3f}},
		{[]byte{0xff}, []byte{0}, []byte{0xff}},
		{[]byte{0xf0, 0, 0, 0, 4}, []byte{1, 0, 0, 0, 0}, []byte{0xf1, 0, 0, 0, 4}},
	} {
		if got := seal.Mask(c.b, c.mask); !bytes.Equal(got, c.want) {
			t.Errorf("Mask(%x, %x) = %x, want %x", c.b, c.mask, got, c.want)
		}
	}
}

func TestP12Covers(t *testing.T) {
	for _, c := range []struct {
		now, was []byte
		want     bool
	}{
		{nil, nil, true},
		{nil, []byte{}, true},
		{[]byte{}, nil, true},
		{nil, []byte{0}, false},
		{[]byte{0}, nil, false},
		{[]byte{0xff, 0xff}, []byte{0xff}, false},
		{[]byte{0xff}, []byte{0xff, 0}, false},
		{[]byte{1}, []byte{1}, true},
		{[]byte{3}, []byte{1}, true},
		{[]byte{1}, []byte{3}, false},
		{[]byte{1}, []byte{2}, false},
		{[]byte{0xff, 0xff}, []byte{0, 0x80}, true},
		{[]byte{0xff, 0x7f}, []byte{0, 0x80}, false},
		{[]byte{0x7f, 0xff}, []byte{0x80, 0}, false},
		{[]byte{0, 0}, []byte{0, 0}, true},
	} {
		if got := seal.Covers(c.now, c.was); got != c.want {
			t.Errorf("Covers(%x, %x) = %v", c.now, c.was, got)
		}
	}
	for now := range 256 {
		for was := range 256 {
			if got := seal.Covers([]byte{byte(now)}, []byte{byte(was)}); got != (now|was == now) {
				t.Fatalf("Covers(%x, %x) = %v", now, was, got)
			}
		}
	}
}

func TestP14SealThereAndBack(t *testing.T) {
	var s stream = 2
	for _, n := range []int{0, 1, 2, 3, 4, 5, 255, 256, 288, 4096, api.MaxBytes} {
		b := s.bytes(n)
		sealed := mustSeal(t, b)
		opened, e := seal.Open(sealed)
		if e != api.OK || !bytes.Equal(opened, b) {
			t.Errorf("%d bytes: opened as %d, %v", n, len(opened), e)
		}
		if again := mustSeal(t, opened); !bytes.Equal(again, sealed) {
			t.Errorf("%d bytes: sealed again unlike", n)
		}
	}
}

// Whatever Open takes, also if no Seal made it, comes back by Seal.
func TestP14OpenThereAndBack(t *testing.T) {
	opened := 0
	for x := range 1 << 16 {
		b := []byte{byte(x >> 8), 0, 0, 0, byte(x)}
		p, e := seal.Open(b)
		if e != api.OK {
			continue
		}
		opened++
		if !bytes.Equal(mustSeal(t, p), b) {
			t.Errorf("%x: sealed again unlike", b)
		}
	}
	if opened != 256 {
		t.Errorf("%d were opened, want one for each byte", opened)
	}
}

// oneSided fails if b, which is sealed, is told to be whole under the mask though it changed.
func oneSided(t *testing.T, b, mask []byte) {
	t.Helper()
	now := seal.Mask(b, mask)
	e := seal.State(now)
	if bytes.Equal(now, b) {
		if e != api.OK {
			t.Fatalf("%x is as it was: %v", b, e)
		}
		return
	}
	if e != api.ErrErased && e != api.ErrTorn {
		t.Fatalf("%x of %x: %v", now, b, e)
	}
	if p, again := seal.Open(now); again != e || p != nil {
		t.Fatalf("%x of %x: opened as %x, %v", now, b, p, again)
	}
}

func TestP15OneSidedOfAByte(t *testing.T) {
	for x := range 256 {
		b := mustSeal(t, []byte{byte(x)})
		for m := range 256 {
			for c := range 16 {
				oneSided(t, b, []byte{byte(m), 0, 0, 0, byte(c)})
			}
			oneSided(t, b, []byte{byte(m)})
		}
	}
}

func TestP15OneSidedOfPages(t *testing.T) {
	var s stream = 3
	for n := range 300 {
		b := mustSeal(t, s.bytes(n))
		oneSided(t, b, nil)
		oneSided(t, b, []byte{0})
		oneSided(t, b, []byte{0xff})
		for i := range 8 * len(b) {
			bit := make([]byte, len(b))
			bit[i/8] = 1 << (i % 8)
			oneSided(t, b, bit)
		}
		for k := range 20 {
			oneSided(t, b, s.bytes(k))
			oneSided(t, b, s.bytes(len(b)))
		}
	}
}

func TestP15OneSidedOfNothing(t *testing.T) {
	b := mustSeal(t, nil)
	for x := range 1 << 16 {
		oneSided(t, b, []byte{byte(x >> 8), 0, 0, byte(x)})
		oneSided(t, b, []byte{0, byte(x >> 8), byte(x), 0})
	}
	if e := seal.State(seal.Mask(b, []byte{0xff})); e != api.ErrErased {
		t.Error(e)
	}
}

func TestP16Unlike(t *testing.T) {
	for x := range 256 {
		for y := range x {
			a, b := mustSeal(t, []byte{byte(x)}), mustSeal(t, []byte{byte(y)})
			if seal.Covers(a, b) || seal.Covers(b, a) {
				t.Fatalf("%x and %x", a, b)
			}
		}
	}
	var s stream = 4
	for n := 1; n < 300; n++ {
		was := s.bytes(n)
		// Also where the unlike one has but more 1 bits: the count alone keeps it from covering.
		for _, now := range [][]byte{s.bytes(n), seal.Mask(was, s.bytes(n)), bytes.Repeat([]byte{0xff}, n)} {
			if bytes.Equal(now, was) {
				continue
			}
			a, b := mustSeal(t, was), mustSeal(t, now)
			if seal.Covers(a, b) || seal.Covers(b, a) {
				t.Fatalf("%x and %x", a, b)
			}
		}
	}
}

func TestP17MaskCovers(t *testing.T) {
	check := func(b, mask []byte) {
		t.Helper()
		m := seal.Mask(b, mask)
		if !seal.Covers(m, b) {
			t.Fatalf("Mask(%x, %x) = %x does not cover", b, mask, m)
		}
		if seal.Zeros(m) > seal.Zeros(b) {
			t.Fatalf("Mask(%x, %x) = %x has more zeros", b, mask, m)
		}
	}
	for x := range 256 {
		for m := range 256 {
			check([]byte{byte(x)}, []byte{byte(m)})
		}
	}
	var s stream = 5
	for n := range 60 {
		for k := range 60 {
			check(s.bytes(n), s.bytes(k))
		}
	}
}

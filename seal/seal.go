// Package seal is layer 1: see shared/doc/01-seal.md.
package seal

import (
	"bytes"
	"math/bits"

	"slipway/api"
)

const (
	countLen  = 4  // bytes of the count behind what is sealed
	maxFields = 64 // widths of a list
	maxWidth  = 64 // bits of a value
)

// Zeros is how many bits of b are 0.
func Zeros(b []byte) int {
	n := 0
	for i := range len(b) {
		n += 8 - bits.OnesCount8(b[i])
	}
	return n
}

// Seal is b and, behind it, how many of its bits are 0: a bit that becomes 1 later lowers the number ahead and can only raise the count, so the two never agree again.
func Seal(b []byte) ([]byte, api.Errno) {
	if len(b) > api.MaxBytes {
		return nil, api.ErrLong
	}
	sealed := make([]byte, 0, len(b)+countLen)
	sealed = append(sealed, b...)
	return append(sealed, count(b)...), api.OK
}

// State tells whether b is sealed and whole (OK), erased, or torn.
func State(b []byte) api.Errno {
	if erased(b) {
		return api.ErrErased
	}
	n := len(b) - countLen
	if n < 0 || n > api.MaxBytes || !bytes.Equal(b[n:], count(b[:n])) {
		return api.ErrTorn
	}
	return api.OK
}

// Open is what was sealed.
func Open(b []byte) ([]byte, api.Errno) {
	if e := State(b); e != api.OK {
		return nil, e
	}
	opened := make([]byte, len(b)-countLen)
	copy(opened, b)
	return opened, api.OK
}

// Mask is b with the 1 bits of mask, laid over it again and again.
func Mask(b, mask []byte) []byte {
	masked := make([]byte, len(b))
	copy(masked, b)
	if len(mask) == 0 {
		return masked
	}
	for i := range masked {
		masked[i] |= mask[i%len(mask)]
	}
	return masked
}

// Covers tells whether now may have come of was by bits that became 1.
func Covers(now, was []byte) bool {
	if len(now) != len(was) {
		return false
	}
	for i := range now {
		if was[i]&^now[i] != 0 {
			return false
		}
	}
	return true
}

// Pack is the values as bits, one behind the other, each as wide as its width.
func Pack(widths []int, values ...uint64) ([]byte, api.Errno) {
	n, e := Width(widths)
	if e != api.OK {
		return nil, e
	}
	if !fit(widths, values) {
		return nil, api.ErrArg
	}
	b := make([]byte, n)
	at := 0
	for i, width := range widths {
		putBits(b, at, width, values[i])
		at += width
	}
	return b, api.OK
}

// Unpack is the values that Pack made b of.
func Unpack(widths []int, b []byte) ([]uint64, api.Errno) {
	n, e := Width(widths)
	if e != api.OK {
		return nil, e
	}
	if len(b) != n {
		return nil, api.ErrLong
	}
	values := make([]uint64, len(widths))
	at := 0
	for i, width := range widths {
		values[i] = getBits(b, at, width)
		at += width
	}
	// A bit that no value has would be lost on the way back.
	if getBits(b, at, 8*n-at) != 0 {
		return nil, api.ErrArg
	}
	return values, api.OK
}

// Width is how many bytes values of these widths need.
func Width(widths []int) (int, api.Errno) {
	if len(widths) > maxFields {
		return 0, api.ErrArg
	}
	all := 0
	for _, width := range widths {
		if width < 1 || width > maxWidth {
			return 0, api.ErrArg
		}
		all += width
	}
	return (all + 7) / 8, api.OK
}

// count is Zeros(b) as it stands behind b, the highest byte first.
func count(b []byte) []byte {
	n := uint32(Zeros(b))
	return []byte{byte(n >> 24), byte(n >> 16), byte(n >> 8), byte(n)}
}

func erased(b []byte) bool {
	for _, x := range b {
		if x != 0xff {
			return false
		}
	}
	return len(b) > 0
}

// fit tells whether each width has its value, with no 1 bit above it.
func fit(widths []int, values []uint64) bool {
	if len(widths) != len(values) {
		return false
	}
	for i, width := range widths {
		if values[i]>>width != 0 {
			return false
		}
	}
	return true
}

// putBits lays the lowest width bits of value at bit at of b, where all bits are 0 yet.
func putBits(b []byte, at, width int, value uint64) {
	for i := range width {
		bit := byte(value>>(width-1-i)) & 1
		b[(at+i)/8] |= bit << (7 - (at+i)%8)
	}
}

// getBits is the width bits at bit at of b, as a number.
func getBits(b []byte, at, width int) uint64 {
	value := uint64(0)
	for i := range width {
		bit := b[(at+i)/8] >> (7 - (at+i)%8) & 1
		value = value<<1 | uint64(bit)
	}
	return value
}

package jfmt_test

import (
	"math"
	"slices"
	"testing"

	"slipway/api"
	"slipway/jfmt"
)

func TestP171Numbers(t *testing.T) {
	is(t, "JrMagic", api.JrMagic, 0x534c4a21)
	is(t, "the errors", [2]api.Errno{api.ErrJournal, api.ErrTxn}, [2]api.Errno{170, 171})
	is(t, "the kinds", [3]int{api.JrDesc, api.JrCommit, api.JrRevoke}, [3]int{1, 2, 3})
	is(t, "the limits", [4]int{api.MaxTags, api.MaxRevs, api.MaxJrSeq, api.MaxJournal}, [4]int{48, 60, 1 << 48, 64})
}

// The bytes as a person would write them.
func TestP171Bytes(t *testing.T) {
	b, e := jfmt.EncodeSuper(api.JSuper{Start: 9, Seq: 7})
	is(t, "EncodeSuper", e, api.OK)
	want := make([]byte, 256)
	copy(want, []byte{0x53, 0x4c, 0x4a, 0x30, 0, 0, 0, 9, 0, 0, 0, 0, 0, 0, 0, 7})
	// 53, 4c, 4a and 30 have 4, 3, 3 and 2 bits that are 1, 9 has two, 7 has three: 17 of 2,016.
	copy(want[252:], []byte{0, 0, 0x07, 0xcf})
	sameBytes(t, "EncodeSuper", b, want)
}

func TestP171EncodeAndDecode(t *testing.T) {
	starts := []int{math.MinInt, math.MinInt + 1, -1 << 32, -64, -1, 0, 1, 2, 15, 62, 63, 64, 65, 256, 1 << 32, 1<<32 + 1, math.MaxInt - 1, math.MaxInt}
	seqs := []int64{math.MinInt64, math.MinInt64 + 1, -maxSeq, -1, 0, 1, 2, 255, 1 << 32, 1<<32 + 1, maxSeq - 1, maxSeq, maxSeq + 1, maxSeq + 2, 1 << 60, math.MaxInt64 - 1, math.MaxInt64}
	for _, start := range starts {
		for _, seq := range seqs {
			s := api.JSuper{Start: start, Seq: seq}
			b, e := jfmt.EncodeSuper(s)
			if start < 0 || start > 63 || seq < 1 || seq > maxSeq {
				nothing(t, "EncodeSuper of what may not be", b, e, api.ErrArg)
				continue
			}
			is(t, "EncodeSuper", e, api.OK)
			sameBytes(t, "EncodeSuper", b, wireSuper("SLJ0", uint32(start), uint64(seq)))
			got, e := jfmt.DecodeSuper(b)
			is(t, "DecodeSuper", e, api.OK)
			is(t, "DecodeSuper", got, s)
		}
	}
	for start := range 64 {
		got, e := jfmt.DecodeSuper(wireSuper("SLJ0", uint32(start), 5))
		is(t, "DecodeSuper", e, api.OK)
		is(t, "DecodeSuper", got, api.JSuper{Start: start, Seq: 5})
	}
}

// Each byte turned into each other one, the count at the end, too: it is told, but where as many bits became 0 as became 1, and then it is what those bytes are.
func TestP171EachByteTurned(t *testing.T) {
	taken := 0
	for _, s := range []api.JSuper{{Start: 0, Seq: 1}, {Start: 9, Seq: 7}, {Start: 63, Seq: maxSeq}} {
		whole := wireSuper("SLJ0", uint32(s.Start), uint64(s.Seq))
		for at := range whole {
			for by := 1; by < 256; by++ {
				b := slices.Clone(whole)
				b[at] ^= byte(by)
				want, ok := unwireSuper(b)
				if !ok {
					noSuper(t, "DecodeSuper of a byte turned", b)
					continue
				}
				is(t, "no bit alone is turned", by&(by-1) != 0, true)
				taken++
				got, e := jfmt.DecodeSuper(b)
				is(t, "DecodeSuper of a byte turned", e, api.OK)
				is(t, "DecodeSuper of a byte turned", got, want)
				sameBytes(t, "EncodeSuper of it", first(jfmt.EncodeSuper(got)), b)
			}
		}
	}
	is(t, "some of them are first blocks", taken > 50, true)
}

func TestP171Lengths(t *testing.T) {
	whole := wireSuper("SLJ0", 9, 7)
	for n := range whole {
		noSuper(t, "DecodeSuper of fewer bytes", whole[:n])
	}
	noSuper(t, "DecodeSuper of one more", append(slices.Clone(whole), 0))
	noSuper(t, "DecodeSuper of two", append(slices.Clone(whole), whole...))
	noSuper(t, "DecodeSuper of nil", nil)
	noSuper(t, "DecodeSuper of none", []byte{})
	noSuper(t, "DecodeSuper of zeros", make([]byte, 256))
	noSuper(t, "DecodeSuper of ones", slices.Repeat([]byte{0xff}, 256))
	noSuper(t, "DecodeSuper of zeros that are sealed", sealed(make([]byte, 252)))
	for _, n := range []int{16, 20, 251, 253} {
		long := append(slices.Clone(whole[:252]), 0, 0)
		noSuper(t, "DecodeSuper of another length, sealed", sealed(long[:n]))
	}
}

// The seal is right, and something else is not.
func TestP171SealedAndWrong(t *testing.T) {
	for _, magic := range []string{"SLJ!", "SLJ1", "SLJ/", "\x00\x00\x00\x00", "\xff\xff\xff\xff", "0JLS", "SLIP", "sLJ0"} {
		noSuper(t, "another magic number", wireSuper(magic, 9, 7))
	}
	for _, start := range []uint32{64, 65, 128, 255, 256, 265, 1 << 16, 1 << 24, 1 << 31, math.MaxUint32, math.MaxUint32 - 63} {
		noSuper(t, "a Start that may not be", wireSuper("SLJ0", start, 7))
	}
	for _, seq := range []uint64{0, 1<<48 + 1, 1<<48 + 7, 1 << 49, 1 << 56, 1 << 63, 1<<63 + 7, math.MaxUint64} {
		noSuper(t, "a Seq that may not be", wireSuper("SLJ0", 9, seq))
	}
	for at := 16; at < 252; at++ {
		for _, x := range []byte{1, 0x10, 0x80, 0xff} {
			b := wireSuper("SLJ0", 9, 7)[:252]
			b[at] = x
			noSuper(t, "something in what must be zeros", sealed(b))
		}
	}
	// What is sealed otherwise: fewer bytes, or more, of the block.
	whole := wireSuper("SLJ0", 9, 7)
	noSuper(t, "sealed ahead of the zeros", padded(sealed(whole[:16])))
	noSuper(t, "not sealed", padded(slices.Clone(whole[:252])))
}

package jfmt_test

import (
	"encoding/binary"
	"math"
	"slices"
	"testing"

	"slipway/api"
	"slipway/jfmt"
)

func tags(n int) []api.JTag {
	l := make([]api.JTag, n)
	for i := range l {
		l[i] = api.JTag{Block: i * 170 % 8192, Escaped: i%3 == 1}
	}
	return l
}

func revoked(n int) []int {
	l := make([]int, n)
	for i := range l {
		l[i] = 8191 - i*131%8192
	}
	return l
}

// there holds of a block that may be, and of what it is as bytes.
func there(t *testing.T, x api.JBlock, want []byte) {
	t.Helper()
	b, e := jfmt.Encode(x)
	if e != api.OK {
		t.Fatal("Encode of", named(x), e)
	}
	sameBytes(t, "Encode", b, want)
	y, e := jfmt.Decode(b)
	if e != api.OK || named(y) != named(x) || !jfmt.SameBlock(x, y) {
		t.Fatal("Decode of Encode of", named(x), "is", named(y), e)
	}
}

func refused(t *testing.T, name string, x api.JBlock) {
	t.Helper()
	nothing(t, name, first(jfmt.Encode(x)), second(jfmt.Encode(x)), errJournal)
}

func first[A, B any](a A, b B) A  { return a }
func second[A, B any](a A, b B) B { return b }

// The bytes as a person would write them.
func TestP172Bytes(t *testing.T) {
	desc := make([]byte, 256)
	copy(desc, []byte{0x53, 0x4c, 0x4a, 0x21, 1, 0, 0, 0, 0, 0, 0, 1, 2, 2, 0, 0, 0, 20, 0, 0, 0, 0x1f, 0xff, 1})
	there(t, api.JBlock{Kind: 1, Seq: 258, Tags: []api.JTag{{Block: 20}, {Block: 8191, Escaped: true}}}, desc)
	commit := make([]byte, 256)
	copy(commit, []byte{0x53, 0x4c, 0x4a, 0x21, 2, 0, 1, 0, 0, 0, 0, 0, 0, 5})
	there(t, api.JBlock{Kind: 2, Seq: 1 << 48, Count: 5}, commit)
	revoke := make([]byte, 256)
	copy(revoke, []byte{0x53, 0x4c, 0x4a, 0x21, 3, 0, 0, 0, 0, 0, 0, 0, 7, 3, 0, 0, 0, 9, 0, 0, 0, 4, 0, 0, 1, 0})
	there(t, api.JBlock{Kind: 3, Seq: 7, Revoked: []int{9, 4, 256}}, revoke)
}

func TestP172HowMany(t *testing.T) {
	for n := range 70 {
		x, y, z := api.JBlock{Kind: 1, Seq: 3, Tags: tags(n)}, api.JBlock{Kind: 3, Seq: 3, Revoked: revoked(n)}, api.JBlock{Kind: 2, Seq: 3, Count: n}
		if n >= 1 && n <= 48 {
			there(t, x, wire(x))
		} else {
			refused(t, "so many tags", x)
		}
		if n >= 1 && n <= 60 {
			there(t, y, wire(y))
		} else {
			refused(t, "so many revoked blocks", y)
		}
		if n >= 1 && n <= 64 {
			there(t, z, wire(z))
		} else {
			refused(t, "such a Count", z)
		}
	}
	for _, n := range []int{255, 256, 257, 256 + 48, 256 + 60, 1 << 16} {
		refused(t, "so many tags", api.JBlock{Kind: 1, Seq: 3, Tags: make([]api.JTag, n)})
		refused(t, "so many revoked blocks", api.JBlock{Kind: 3, Seq: 3, Revoked: make([]int, n)})
	}
	for _, n := range oddNumbers {
		if n < 1 || n > 64 {
			refused(t, "such a Count", api.JBlock{Kind: 2, Seq: 3, Count: n})
		}
	}
}

func TestP172Kinds(t *testing.T) {
	for _, kind := range append([]int{-3, -2, 6, 7, 254, 256 + 1, 256 + 2, 256 + 3, 1<<32 + 1}, oddNumbers...) {
		if kind >= 1 && kind <= 3 {
			continue
		}
		refused(t, "a Kind that is none", api.JBlock{Kind: kind, Seq: 1})
		refused(t, "a Kind that is none", api.JBlock{Kind: kind, Seq: 1, Tags: tags(1)})
		refused(t, "a Kind that is none", api.JBlock{Kind: kind, Seq: 1, Revoked: revoked(1)})
		refused(t, "a Kind that is none", api.JBlock{Kind: kind, Seq: 1, Count: 1})
	}
}

func TestP172Seqs(t *testing.T) {
	for _, seq := range []int64{math.MinInt64, math.MinInt64 + 1, -maxSeq, -1, 0, 1, 2, 255, 256, 1 << 32, maxSeq - 1, maxSeq, maxSeq + 1, maxSeq + 2, 1 << 60, math.MaxInt64} {
		for _, x := range []api.JBlock{{Kind: 1, Tags: tags(2)}, {Kind: 2, Count: 2}, {Kind: 3, Revoked: revoked(2)}} {
			x.Seq = seq
			if seq >= 1 && seq <= maxSeq {
				there(t, x, wire(x))
			} else {
				refused(t, "such a Seq", x)
			}
		}
	}
}

// Each field that a Kind does not have.
func TestP172Fields(t *testing.T) {
	desc, commit, revoke := api.JBlock{Kind: 1, Seq: 5, Tags: tags(2)}, api.JBlock{Kind: 2, Seq: 5, Count: 2}, api.JBlock{Kind: 3, Seq: 5, Revoked: revoked(2)}
	for _, x := range []api.JBlock{desc, commit, revoke} {
		want := wire(x)
		x.Tags = append([]api.JTag{}, x.Tags...)
		x.Revoked = append([]int{}, x.Revoked...)
		b, e := jfmt.Encode(x)
		is(t, "Encode with lists that are empty and not nil", e, api.OK)
		sameBytes(t, "Encode with lists that are empty and not nil", b, want)
	}
	for _, x := range []api.JBlock{commit, revoke} {
		for _, n := range []int{1, 2, 48, 49} {
			x.Tags = tags(n)
			refused(t, "Tags of another Kind", x)
		}
	}
	for _, x := range []api.JBlock{desc, commit} {
		for _, n := range []int{1, 2, 60, 61} {
			x.Revoked = revoked(n)
			refused(t, "Revoked of another Kind", x)
		}
	}
	for _, x := range []api.JBlock{desc, revoke} {
		for _, n := range oddNumbers {
			if n != 0 {
				x.Count = n
				refused(t, "a Count of another Kind", x)
			}
		}
	}
	// Nothing of its own, something of another's.
	refused(t, "a descriptor of revoked blocks", api.JBlock{Kind: 1, Seq: 5, Revoked: revoked(2)})
	refused(t, "a descriptor of a Count", api.JBlock{Kind: 1, Seq: 5, Count: 2})
	refused(t, "a commit of tags", api.JBlock{Kind: 2, Seq: 5, Tags: tags(2)})
	refused(t, "a commit of revoked blocks", api.JBlock{Kind: 2, Seq: 5, Revoked: revoked(2)})
	refused(t, "a revoke block of tags", api.JBlock{Kind: 3, Seq: 5, Tags: tags(2)})
	refused(t, "a revoke block of a Count", api.JBlock{Kind: 3, Seq: 5, Count: 2})
	refused(t, "what is nothing", api.JBlock{})
}

// A block at each edge, in each place of a list.
func TestP172Blocks(t *testing.T) {
	for _, n := range []int{1, 2, 3, 47, 48, 59, 60} {
		for at := range n {
			for _, block := range []int{math.MinInt, -8192, -1, 0, 1, 8190, 8191, 8192, 8193, 1 << 16, 1 << 32, 1<<32 + 1, math.MaxInt} {
				revoke := api.JBlock{Kind: 3, Seq: 8, Revoked: revoked(n)}
				revoke.Revoked[at] = block
				desc := api.JBlock{Kind: 1, Seq: 8, Tags: tags(min(n, 48))}
				desc.Tags[min(at, 47)].Block = block
				for _, x := range []api.JBlock{revoke, desc} {
					if block >= 0 && block <= 8191 {
						there(t, x, wire(x))
					} else {
						refused(t, "a block that no disk has", x)
					}
				}
			}
		}
	}
	// A block may come twice, as far as one block of the journal goes.
	twice := api.JBlock{Kind: 1, Seq: 8, Tags: []api.JTag{{Block: 5}, {Block: 5, Escaped: true}, {Block: 5}}}
	there(t, twice, wire(twice))
	again := api.JBlock{Kind: 3, Seq: 8, Revoked: []int{5, 5}}
	there(t, again, wire(again))
}

// good are blocks of all kinds, with the fewest and the most that they may have.
func good() []api.JBlock {
	return []api.JBlock{
		{Kind: 1, Seq: 1, Tags: tags(1)}, {Kind: 1, Seq: 7, Tags: tags(3)}, {Kind: 1, Seq: maxSeq, Tags: tags(48)},
		{Kind: 2, Seq: 1, Count: 1}, {Kind: 2, Seq: 7, Count: 3}, {Kind: 2, Seq: maxSeq, Count: 64},
		{Kind: 3, Seq: 1, Revoked: revoked(1)}, {Kind: 3, Seq: 7, Revoked: revoked(4)}, {Kind: 3, Seq: maxSeq, Revoked: revoked(60)},
	}
}

// Each byte turned into each other one is either nothing, or the block that those bytes are.
func TestP172EachByteTurned(t *testing.T) {
	t.Parallel()
	taken := 0
	for _, x := range good() {
		whole := wire(x)
		for at := range whole {
			for by := 1; by < 256; by++ {
				b := slices.Clone(whole)
				b[at] ^= byte(by)
				want, ok := unwire(b)
				if !ok {
					noBlock(t, "Decode of a byte turned", b)
					continue
				}
				taken++
				got, e := jfmt.Decode(b)
				if e != api.OK || !jfmt.SameBlock(got, want) {
					t.Fatal("Decode of a byte turned:", named(got), e, "want", named(want))
				}
				sameBytes(t, "Encode of it", first(jfmt.Encode(got)), b)
			}
		}
	}
	is(t, "some of them are blocks", taken > 1000, true)
}

func TestP172Lengths(t *testing.T) {
	for _, x := range good() {
		whole := wire(x)
		for n := range whole {
			noBlock(t, "Decode of fewer bytes", whole[:n])
		}
		noBlock(t, "Decode of one more", append(slices.Clone(whole), 0))
		noBlock(t, "Decode of two", append(slices.Clone(whole), whole...))
	}
	noBlock(t, "Decode of nil", nil)
	noBlock(t, "Decode of none", []byte{})
	noBlock(t, "Decode of zeros", make([]byte, 256))
	noBlock(t, "Decode of ones", slices.Repeat([]byte{0xff}, 256))
	noBlock(t, "Decode of the magic number alone", padded([]byte("SLJ!")))
	noBlock(t, "Decode of a first block", wireSuper("SLJ0", 1, 1))
}

// A head of each kind and number over what stands in blocks of each kind.
func TestP172DecodeOfHeads(t *testing.T) {
	for _, x := range append(good(), api.JBlock{}) {
		body := wire(x)[14:]
		for kind := range 256 {
			for many := range 256 {
				b := append(head(byte(kind), 7, byte(many)), body...)
				want, ok := unwire(b)
				got, e := jfmt.Decode(b)
				if ok != (e == api.OK) || !jfmt.SameBlock(got, want) {
					t.Fatal("Decode of a head of", kind, many, "is", named(got), e, "want", named(want))
				}
			}
		}
	}
	for _, seq := range []uint64{0, 1<<48 + 1, 1 << 49, 1 << 63, 1<<63 + 1, math.MaxUint64} {
		for _, x := range good() {
			b := wire(x)
			binary.BigEndian.PutUint64(b[5:], seq)
			noBlock(t, "Decode of such a Seq", b)
		}
	}
}

func TestP172DecodeOfWrong(t *testing.T) {
	for n := 1; n <= 48; n++ {
		for at := range n {
			for _, escaped := range []byte{2, 3, 0x80, 0x81, 0xff} {
				b := wire(api.JBlock{Kind: 1, Seq: 7, Tags: tags(n)})
				b[14+5*at+4] = escaped
				noBlock(t, "Decode of such an Escaped", b)
			}
			for _, block := range []uint32{8192, 8193, 1 << 16, 1 << 24, 1 << 31, math.MaxUint32} {
				b := wire(api.JBlock{Kind: 1, Seq: 7, Tags: tags(n)})
				binary.BigEndian.PutUint32(b[14+5*at:], block)
				noBlock(t, "Decode of a tag of no block", b)
				b = wire(api.JBlock{Kind: 3, Seq: 7, Revoked: revoked(n)})
				binary.BigEndian.PutUint32(b[14+4*at:], block)
				noBlock(t, "Decode of what is no block", b)
			}
		}
	}
	// A count that does not go with what follows.
	for n := 1; n <= 60; n++ {
		for _, x := range []api.JBlock{{Kind: 1, Seq: 7, Tags: tags(min(n, 48))}, {Kind: 3, Seq: 7, Revoked: revoked(n)}} {
			for many := range wire(x)[13] {
				b := wire(x)
				b[13] = many
				noBlock(t, "Decode of fewer than there are", b)
			}
		}
	}
	// Something behind it.
	for _, x := range good() {
		end := 14 + 5*len(x.Tags) + 4*len(x.Revoked)
		for at := end; at < 256; at++ {
			for _, something := range []byte{1, 0x80, 0xff} {
				b := wire(x)
				b[at] = something
				noBlock(t, "Decode of something behind it", b)
			}
		}
	}
	for n := range 256 {
		if n == 0 || n > 48 {
			noBlock(t, "Decode of so many tags", padded(head(1, 7, byte(n))))
		}
		if n == 0 || n > 60 {
			noBlock(t, "Decode of so many revoked blocks", padded(head(3, 7, byte(n))))
		}
		if n == 0 || n > 64 {
			noBlock(t, "Decode of such a Count", padded(head(2, 7, byte(n))))
		}
	}
	// Zeros behind a count are blocks 0.
	x, e := jfmt.Decode(padded(head(3, 7, 2)))
	is(t, "Decode of zeros behind a count", e, api.OK)
	is(t, "Decode of zeros behind a count", named(x), named(api.JBlock{Kind: 3, Seq: 7, Revoked: []int{0, 0}}))
}

// escaping holds Escape against what it ought to be, and Unescape against what there was.
func escaping(t *testing.T, b []byte) {
	t.Helper()
	want, magic := slices.Clone(b), len(b) >= 4 && string(b[:4]) == "SLJ!"
	if magic {
		clear(want[:4])
	}
	was := slices.Clone(b)
	got, escaped := jfmt.Escape(b)
	is(t, "whether it is escaped", escaped, magic)
	sameBytes(t, "Escape", got, want)
	sameBytes(t, "what was handed in", b, was)
	sameBytes(t, "there and back", jfmt.Unescape(got, escaped), was)
	sameBytes(t, "what Escape answered", got, want)
}

func TestP172Escape(t *testing.T) {
	for n := range 300 {
		b := make([]byte, n)
		for i := range b {
			b[i] = byte(i + 1)
		}
		escaping(t, b)
		copy(b, "SLJ!")
		escaping(t, b)
		// But for one bit.
		for i := range min(n, 4) * 8 {
			c := slices.Clone(b)
			c[i/8] ^= 1 << (i % 8)
			escaping(t, c)
		}
		clear(b)
		escaping(t, b)
	}
	escaping(t, nil)
	escaping(t, []byte{})
	escaping(t, []byte("SLJ!"))
	escaping(t, []byte("SLJ"))
	escaping(t, []byte("!JLS"))
	escaping(t, []byte("\x00SLJ!"))
	escaping(t, []byte("SLJ0"))
	escaping(t, wire(good()[0]))
	escaping(t, wireSuper("SLJ0", 3, 3))
}

func TestP172Unescape(t *testing.T) {
	for n := range 300 {
		for _, fill := range []byte{0, 1, 0xff} {
			b := slices.Repeat([]byte{fill}, n)
			was := slices.Clone(b)
			want := slices.Clone(b)
			sameBytes(t, "Unescape of what is not escaped", jfmt.Unescape(b, false), want)
			if n >= 4 {
				copy(want, "SLJ!")
			}
			sameBytes(t, "Unescape of what is escaped", jfmt.Unescape(b, true), want)
			sameBytes(t, "what was handed in", b, was)
		}
	}
	sameBytes(t, "Unescape of nil", jfmt.Unescape(nil, true), nil)
	sameBytes(t, "Unescape of nil", jfmt.Unescape(nil, false), nil)
	sameBytes(t, "Unescape of three bytes", jfmt.Unescape([]byte{1, 2, 3}, true), []byte{1, 2, 3})
	sameBytes(t, "Unescape of four bytes", jfmt.Unescape([]byte{1, 2, 3, 4}, true), []byte{0x53, 0x4c, 0x4a, 0x21})
	sameBytes(t, "Unescape of five bytes", jfmt.Unescape([]byte{1, 2, 3, 4, 5}, true), []byte{0x53, 0x4c, 0x4a, 0x21, 5})
	sameBytes(t, "Unescape of what begins with the magic number", jfmt.Unescape([]byte("SLJ!x"), false), []byte("SLJ!x"))
	sameBytes(t, "Unescape of what begins with the magic number", jfmt.Unescape([]byte("SLJ!x"), true), []byte("SLJ!x"))
}

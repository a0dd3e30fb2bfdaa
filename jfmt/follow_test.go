package jfmt_test

import (
	"slices"
	"testing"

	"slipway/api"
	"slipway/jfmt"
)

// What is encoded is decoded as it was.
func TestP175EncodeAndDecode(t *testing.T) {
	var s stream = 31
	kinds := map[int]int{}
	for range 10000 {
		x := s.block()
		kinds[x.Kind]++
		there(t, x, wire(x))
		seq := s.seq()
		first := api.JSuper{Start: s.upTo(0, 63), Seq: seq}
		b, e := jfmt.EncodeSuper(first)
		is(t, "EncodeSuper", e, api.OK)
		got, e := jfmt.DecodeSuper(b)
		is(t, "DecodeSuper", e, api.OK)
		is(t, "DecodeSuper", got, first)
	}
	is(t, "all kinds", kinds[1] > 1000 && kinds[2] > 1000 && kinds[3] > 1000, true)
}

// What is decoded has those bytes; what is not decoded is nothing that Encode makes.
func TestP175DecodeAndEncode(t *testing.T) {
	var s stream = 32
	taken, refused := 0, 0
	for range 40000 {
		b := wire(s.block())
		for range s.below(3) {
			b[s.below(40)] ^= byte(1 << s.below(8))
		}
		want, ok := unwire(b)
		if !ok {
			refused++
			noBlock(t, "Decode", b)
			continue
		}
		taken++
		x, e := jfmt.Decode(b)
		if e != api.OK || !jfmt.SameBlock(x, want) {
			t.Fatal("Decode:", named(x), e, "want", named(want))
		}
		again, e := jfmt.Encode(x)
		is(t, "Encode", e, api.OK)
		sameBytes(t, "Encode of Decode", again, b)
	}
	is(t, "enough of both", taken > 10000 && refused > 5000, true)
}

// Blocks that are not the same have other bytes.
func TestP175Unlike(t *testing.T) {
	var s stream = 33
	seen := map[string]string{}
	for range 20000 {
		x := s.block()
		x.Seq = int64(s.upTo(1, 3))
		x.Tags, x.Revoked = x.Tags[:min(len(x.Tags), 2)], x.Revoked[:min(len(x.Revoked), 2)]
		b, e := jfmt.Encode(x)
		is(t, "Encode", e, api.OK)
		was, twice := seen[string(b)]
		if twice && was != named(x) {
			t.Fatal(was, "and", named(x), "have the same bytes")
		}
		seen[string(b)] = named(x)
	}
}

// Whatever stands behind: other blocks, any bytes, another transaction, the same one.
func TestP175PackAndUnpack(t *testing.T) {
	var s stream = 34
	for range 1500 {
		x, y := s.txn(), s.txn()
		if s.below(2) == 0 {
			y.Seq = x.Seq + int64(s.below(2))
		}
		l, e := jfmt.Pack(x)
		is(t, "Pack", e, api.OK)
		other, _ := jfmt.Pack(y)
		for _, more := range [][][]byte{nil, other, l, {s.data()}, {nil, s.data()}, other[:s.below(len(other)+1)], {wire(s.block()), wire(s.block())}} {
			aTxn(t, "Unpack", x, len(l), slices.Concat(l, more))
			got, n, e := jfmt.Unpack(x.Seq, slices.Concat(l, more)...)
			is(t, "Unpack", jfmt.Same(got, x) && n == jfmt.Size(x) && e == api.OK, true)
		}
		// And the other way round: what is unpacked has those blocks.
		got, n, _ := jfmt.Unpack(x.Seq, slices.Concat(l, other)...)
		again, e := jfmt.Pack(got)
		is(t, "Pack", e, api.OK)
		sameBlocks(t, "Pack of Unpack", again, l[:n])
	}
}

// Transactions one behind the other are unpacked one behind the other.
func TestP175Row(t *testing.T) {
	var s stream = 35
	for range 200 {
		var l [][]byte
		var row []api.JTxn
		from := int64(s.upTo(1, 1<<48-10))
		for i := range 6 {
			x := s.txnOf(s.below(8), 1+s.below(8))
			x.Seq = from + int64(i)
			b, e := jfmt.Pack(x)
			is(t, "Pack", e, api.OK)
			l = append(l, b...)
			row = append(row, x)
		}
		for _, x := range row {
			got, n, e := jfmt.Unpack(x.Seq, l...)
			is(t, "Unpack", e, api.OK)
			is(t, "Unpack", alike(got, x), true)
			l = l[n:]
		}
		is(t, "what is left", len(l), 0)
	}
}

// lookalikes are Data that might be taken for more.
func lookalikes() [][]byte {
	l := [][]byte{make([]byte, 256), padded([]byte("SLJ!")), padded([]byte("SLJ0")), wireSuper("SLJ0", 1, 7), slices.Repeat([]byte("SLJ!"), 64)}
	for _, x := range good() {
		x.Seq = 7
		l = append(l, wire(x))
	}
	return l
}

// copiesOf are the copies of a Pack: those behind each descriptor.
func copiesOf(t *testing.T, l [][]byte) [][]byte {
	t.Helper()
	var copies [][]byte
	for at := 0; at < len(l); at++ {
		x, e := jfmt.Decode(l[at])
		is(t, "Decode of what is no copy", e, api.OK)
		copies = append(copies, l[at+1:at+1+len(x.Tags)]...)
		at += len(x.Tags)
	}
	return copies
}

// No copy can be decoded, whatever its bytes are: also those of a block of the journal, of the same transaction.
func TestP176NoCopyIsDecoded(t *testing.T) {
	x := api.JTxn{Seq: 7, Revoked: []int{1}}
	for i, data := range lookalikes() {
		x.Writes = append(x.Writes, api.Redo{Block: 100 + i, Data: data})
	}
	l, e := jfmt.Pack(x)
	is(t, "Pack", e, api.OK)
	copies := copiesOf(t, l)
	is(t, "how many copies", len(copies), len(x.Writes))
	for _, b := range copies {
		noBlock(t, "Decode of a copy", b)
	}
	aTxn(t, "Unpack", x, len(l), l)
	var s stream = 36
	many := 0
	for range 1500 {
		x := s.txn()
		for i := range x.Writes {
			if s.below(2) == 0 {
				x.Writes[i].Data = lookalikes()[s.below(len(lookalikes()))]
			}
		}
		l, e := jfmt.Pack(x)
		is(t, "Pack", e, api.OK)
		copies := copiesOf(t, l)
		is(t, "how many copies", len(copies), len(x.Writes))
		for _, b := range copies {
			many++
			noBlock(t, "Decode of a copy", b)
			noTxn(t, "Unpack from a copy on", x.Seq, [][]byte{b})
		}
		aTxn(t, "Unpack", x, len(l), l)
	}
	is(t, "enough copies", many > 10000, true)
}

// A journal of a journal: the blocks of one transaction are the copies of another one.
func TestP176Nested(t *testing.T) {
	inner, _ := jfmt.Pack(plain(10, 70))
	outer := api.JTxn{Seq: 7}
	for i, b := range inner {
		outer.Writes = append(outer.Writes, api.Redo{Block: i, Data: b})
	}
	l, e := jfmt.Pack(outer)
	is(t, "Pack", e, api.OK)
	aTxn(t, "Unpack", outer, len(l), l)
	for at := 1; at < len(l); at++ {
		noTxn(t, "Unpack from within", 7, l[at:])
	}
}

// Without the last one of the blocks there is nothing, whatever else stands behind but that one.
func TestP177WithoutTheLast(t *testing.T) {
	var s stream = 37
	for range 1500 {
		x, y := s.txn(), s.txn()
		l, _ := jfmt.Pack(x)
		other, _ := jfmt.Pack(y)
		if y.Seq == x.Seq {
			continue
		}
		for _, more := range [][][]byte{nil, {nil}, {make([]byte, 256)}, other, other[len(other)-1:], {s.data()}, {s.data(), l[len(l)-1]}} {
			noTxn(t, "Unpack without the last block", x.Seq, slices.Concat(l[:len(l)-1], more))
		}
	}
}

// With a block of another number in the place of any but a copy there is nothing.
func TestP177AnotherNumber(t *testing.T) {
	var s stream = 38
	for range 600 {
		x := s.txn()
		l, _ := jfmt.Pack(x)
		y, z := x, s.txn()
		y.Seq = x.Seq - 1 + 2*int64(s.below(2))
		if y.Seq < 1 || y.Seq > maxSeq || z.Seq == x.Seq {
			continue
		}
		older, _ := jfmt.Pack(y)
		other, _ := jfmt.Pack(z)
		for at := 0; at < len(l); at++ {
			b, e := jfmt.Decode(l[at])
			is(t, "Decode", e, api.OK)
			noTxn(t, "Unpack with the one of another number", x.Seq, with(l, at, older[at]))
			for _, o := range [][]byte{other[0], other[len(other)-1], older[0], older[len(older)-1]} {
				noTxn(t, "Unpack with one of another number", x.Seq, with(l, at, o))
			}
			at += len(b.Tags)
		}
		noTxn(t, "Unpack of another transaction", x.Seq, older)
		noTxn(t, "Unpack of another transaction", y.Seq, l)
		noTxn(t, "Unpack of another transaction", x.Seq, other)
	}
}

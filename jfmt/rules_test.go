package jfmt_test

import (
	"fmt"
	"slices"
	"strings"
	"testing"
	"time"

	"slipway/api"
	"slipway/jfmt"
)

// all does all calls, and ends the test if one answers an error and something beside it.
func all(t *testing.T, s api.JSuper, x api.JBlock, txn api.JTxn, seq int64, l [][]byte) {
	t.Helper()
	b, e := jfmt.EncodeSuper(s)
	is(t, "EncodeSuper has bytes", b != nil, e == api.OK)
	is(t, "EncodeSuper", e == api.OK || e == api.ErrArg, true)
	b, e = jfmt.Encode(x)
	is(t, "Encode has bytes", b != nil, e == api.OK)
	is(t, "Encode", e == api.OK || e == errJournal, true)
	is(t, "SameBlock", jfmt.SameBlock(x, x), true)
	is(t, "Same", jfmt.Same(txn, txn), true)
	blocks, e := jfmt.Pack(txn)
	is(t, "Pack has blocks", blocks != nil, e == api.OK)
	is(t, "Pack", e == api.OK || e == errTxn, true)
	is(t, "Check", jfmt.Check(txn), e)
	is(t, "Size", jfmt.Size(txn) > 0, true)
	got, n, e := jfmt.Unpack(seq, l...)
	is(t, "Unpack has a transaction", n > 0 && got.Seq == seq, e == api.OK)
	if e != api.OK {
		noTxn(t, "Unpack", seq, l)
	}
	for _, b := range l {
		bytesOf(t, b)
	}
}

func bytesOf(t *testing.T, b []byte) {
	t.Helper()
	if _, e := jfmt.Decode(b); e != api.OK {
		noBlock(t, "Decode", b)
	}
	if _, e := jfmt.DecodeSuper(b); e != api.OK {
		noSuper(t, "DecodeSuper", b)
	}
	got, escaped := jfmt.Escape(b)
	sameBytes(t, "Unescape", jfmt.Unescape(got, escaped), b)
	is(t, "how many bytes", len(jfmt.Unescape(b, true)), len(b))
}

// Whatever numbers are handed in: each call ends, none panics, and with an error all else is zero.
func TestR1AndR2OfNumbers(t *testing.T) {
	for _, a := range oddNumbers {
		for _, b := range oddNumbers {
			for _, c := range oddNumbers {
				x := api.JBlock{Kind: a, Seq: int64(b), Count: c}
				txn := api.JTxn{Seq: int64(a), Writes: []api.Redo{{Block: b}}, Revoked: []int{c}}
				all(t, api.JSuper{Start: a, Seq: int64(b)}, x, txn, int64(c), nil)
			}
			for kind := range 5 {
				for seq := int64(0); seq < 2; seq++ {
					x := api.JBlock{Kind: kind, Seq: seq, Tags: []api.JTag{{Block: a}, {Block: b}}, Revoked: []int{a, b}}
					txn := api.JTxn{Seq: seq, Writes: []api.Redo{{Block: a, Data: make([]byte, 256)}, {Block: b, Data: make([]byte, 256)}}}
					all(t, api.JSuper{}, x, txn, seq, nil)
					x.Tags, txn.Writes, txn.Revoked = nil, nil, x.Revoked
					all(t, api.JSuper{}, x, txn, seq, nil)
				}
			}
		}
	}
}

func TestR1AndR2OfBytes(t *testing.T) {
	var s stream = 41
	for range 10000 {
		var l [][]byte
		for range s.below(5) {
			b := wire(s.block())
			switch s.below(4) {
			case 0:
				b = make([]byte, s.below(300))
				copy(b, "SLJ!")
			case 1:
				b[s.below(256)] ^= byte(s.next())
			}
			l = append(l, b)
		}
		all(t, api.JSuper{}, s.block(), s.txnOf(s.below(3), s.below(3)), s.seq(), l)
		for seq := int64(-1); seq < 3; seq++ {
			all(t, api.JSuper{}, api.JBlock{}, api.JTxn{}, seq, l)
		}
	}
}

// roomy is a list with room behind it, in which something stands.
func roomy[T any](l []T, more ...T) ([]T, []T) {
	whole := append(slices.Clone(l), more...)
	return whole[:len(l)], whole
}

func roomyTxn(x api.JTxn) (api.JTxn, func() string) {
	var w []api.Redo
	var r []int
	x.Writes, w = roomy(x.Writes, api.Redo{Block: 77, Data: []byte{7}})
	x.Revoked, r = roomy(x.Revoked, 77, 78)
	var data [][]byte
	for i := range x.Writes {
		var whole []byte
		x.Writes[i].Data, whole = roomy(x.Writes[i].Data, 0x5a, 0x5b)
		data = append(data, whole)
	}
	return x, func() string { return fmt.Sprint(x, w, r, data) }
}

func roomyBlock(x api.JBlock) (api.JBlock, func() string) {
	var tags []api.JTag
	var r []int
	x.Tags, tags = roomy(x.Tags, api.JTag{Block: 77}, api.JTag{Block: 78})
	x.Revoked, r = roomy(x.Revoked, 77, 78)
	return x, func() string { return fmt.Sprint(x, tags, r) }
}

// What is handed in is not written to, nor what stands behind it.
func TestR3HandedIn(t *testing.T) {
	wrong := plain(3, 2)
	wrong.Writes[2].Block = wrong.Revoked[0]
	unsorted := plain(3, 2)
	unsorted.Revoked = []int{9, 9, 2}
	for _, x := range append(some(), wrong, unsorted, api.JTxn{}) {
		x, all := roomyTxn(x)
		was := all()
		jfmt.Check(x)
		jfmt.Size(x)
		jfmt.Pack(x)
		jfmt.Same(x, x)
		is(t, "the transaction", all() == was, true)
	}
	for _, x := range append(good(), api.JBlock{}, api.JBlock{Kind: 1, Seq: 1, Tags: tags(49)}, api.JBlock{Kind: 3, Seq: 1, Revoked: revoked(61)}, api.JBlock{Kind: 1, Seq: 1, Tags: tags(3), Revoked: revoked(3)}) {
		x, all := roomyBlock(x)
		was := all()
		jfmt.Encode(x)
		jfmt.SameBlock(x, x)
		is(t, "the block", all(), was)
	}
	for _, x := range some() {
		var l, wholes [][]byte
		for _, b := range append(laid(x), nil, []byte("SLJ!"), wireSuper("SLJ0", 3, 3)) {
			b, whole := roomy(b, 0x5a, 0x5b)
			l, wholes = append(l, b), append(wholes, whole)
		}
		l, row := roomy(l, []byte{1, 2, 3})
		was := fmt.Sprint(l, row, wholes)
		jfmt.Unpack(7, l...)
		jfmt.Unpack(8, l...)
		jfmt.Unpack(7, l[1:]...)
		for _, b := range l {
			jfmt.Decode(b)
			jfmt.DecodeSuper(b)
			jfmt.Escape(b)
			jfmt.Unescape(b, true)
			jfmt.Unescape(b, false)
		}
		is(t, "the blocks", fmt.Sprint(l, row, wholes) == was, true)
	}
}

// fill writes on all that bytes reach, also behind their end.
func fill(b []byte) {
	b = b[:cap(b)]
	for i := range b {
		b[i] = 0x77
	}
}

func scribble(x api.JTxn) {
	writes, revoked := x.Writes[:cap(x.Writes)], x.Revoked[:cap(x.Revoked)]
	for i := range writes {
		fill(writes[i].Data)
		writes[i] = api.Redo{Block: -7}
	}
	for i := range revoked {
		revoked[i] = -7
	}
}

func scribbleBlock(x api.JBlock) {
	tags, revoked := x.Tags[:cap(x.Tags)], x.Revoked[:cap(x.Revoked)]
	for i := range tags {
		tags[i] = api.JTag{Block: -7}
	}
	for i := range revoked {
		revoked[i] = -7
	}
}

// What was handed in is not kept: whoever changes it behind a call changes no answer.
func TestR3NotKept(t *testing.T) {
	for i, want := range some() {
		x := some()[i]
		l, _ := jfmt.Pack(x)
		scribble(x)
		sameBlocks(t, "what Pack answered", l, laid(want))
		got, n, e := jfmt.Unpack(7, l...)
		is(t, "Unpack", e, api.OK)
		for _, b := range l {
			fill(b)
		}
		clear(l)
		is(t, "what Unpack answered", n == len(laid(want)) && alike(got, want), true)
	}
	for i, want := range good() {
		x := good()[i]
		b, _ := jfmt.Encode(x)
		scribbleBlock(x)
		sameBytes(t, "what Encode answered", b, wire(want))
		got, _ := jfmt.Decode(b)
		fill(b)
		is(t, "what Decode answered", named(got), named(want))
	}
	// Also where nothing is changed.
	for _, begins := range []string{"SLJ!", "SLJ0", ""} {
		for n := range 20 {
			b := make([]byte, n)
			copy(b, begins)
			escaped, _ := jfmt.Escape(b)
			want := slices.Clone(escaped)
			fill(b)
			sameBytes(t, "what Escape answered", escaped, want)
			for _, is := range []bool{false, true} {
				data := jfmt.Unescape(escaped, is)
				again := slices.Clone(data)
				fill(escaped)
				sameBytes(t, "what Unescape answered", data, again)
			}
		}
	}
}

// What is answered is nobody's else: neither what was handed in, nor another answer, nor another list of one answer.
func TestR3Answers(t *testing.T) {
	for _, x := range some() {
		want := laid(x)
		one, _ := jfmt.Pack(x)
		two, _ := jfmt.Pack(x)
		for at, b := range one {
			fill(b)
			for behind := at + 1; behind < len(one); behind++ {
				sameBytes(t, "another block of the answer", one[behind], want[behind])
			}
		}
		clear(one[:cap(one)])
		sameBlocks(t, "another answer", two, want)
		is(t, "what was handed in", slices.EqualFunc(laid(x), want, slices.Equal), true)
		l := laid(x)
		got, _, _ := jfmt.Unpack(7, l...)
		again, _, _ := jfmt.Unpack(7, l...)
		for i := range got.Writes {
			fill(got.Writes[i].Data)
			for behind := i + 1; behind < len(got.Writes); behind++ {
				sameBytes(t, "another list of the answer", got.Writes[behind].Data, x.Writes[behind].Data)
			}
		}
		scribble(got)
		is(t, "another answer", alike(again, x), true)
		sameBlocks(t, "what was handed in", l, want)
	}
	for _, x := range good() {
		b := wire(x)
		one, _ := jfmt.Decode(b)
		two, _ := jfmt.Decode(b)
		scribbleBlock(one)
		is(t, "another answer", named(two), named(x))
		sameBytes(t, "what was handed in", b, wire(x))
		first, _ := jfmt.Encode(x)
		second, _ := jfmt.Encode(x)
		fill(first)
		sameBytes(t, "another answer", second, wire(x))
	}
	first, _ := jfmt.EncodeSuper(api.JSuper{Start: 1, Seq: 7})
	second, _ := jfmt.EncodeSuper(api.JSuper{Start: 1, Seq: 7})
	fill(first)
	sameBytes(t, "another answer", second, wireSuper("SLJ0", 1, 7))
	for _, begins := range []string{"SLJ!", "SLJ0", ""} {
		for n := range 20 {
			b := make([]byte, n)
			copy(b, begins)
			was := slices.Clone(b)
			escaped, _ := jfmt.Escape(b)
			fill(escaped)
			fill(jfmt.Unescape(b, false))
			fill(jfmt.Unescape(b, true))
			sameBytes(t, "what was handed in", b, was)
		}
	}
}

// Empty and nil lists are the same.
func TestR4(t *testing.T) {
	for _, x := range some() {
		y := x
		y.Writes, y.Revoked = append([]api.Redo{}, x.Writes...), append([]int{}, x.Revoked...)
		is(t, "Check", jfmt.Check(y), jfmt.Check(x))
		is(t, "Size", jfmt.Size(y), jfmt.Size(x))
		sameBlocks(t, "Pack", first(jfmt.Pack(y)), first(jfmt.Pack(x)))
		is(t, "Same", jfmt.Same(x, y) && jfmt.Same(y, x), true)
	}
	is(t, "Check", jfmt.Check(api.JTxn{Seq: 1, Writes: []api.Redo{}, Revoked: []int{}}), errTxn)
	for _, b := range [][]byte{nil, {}} {
		noBlock(t, "Decode", b)
		noSuper(t, "DecodeSuper", b)
		noTxn(t, "Unpack", 7, [][]byte{b})
		got, escaped := jfmt.Escape(b)
		is(t, "Escape", len(got) == 0 && !escaped, true)
		is(t, "Unescape", len(jfmt.Unescape(b, true))+len(jfmt.Unescape(b, false)), 0)
		is(t, "Check of no Data", jfmt.Check(api.JTxn{Seq: 1, Writes: []api.Redo{{Block: 1, Data: b}}}), errTxn)
	}
	noTxn(t, "Unpack", 7, [][]byte{})
}

// The same calls answer the same.
func TestR6(t *testing.T) {
	said := func() string {
		var b strings.Builder
		var s stream = 42
		for range 200 {
			x := s.txn()
			l, e := jfmt.Pack(x)
			b.WriteString(fmt.Sprint(l, e, jfmt.Check(x), jfmt.Size(x)))
			l[s.below(len(l))] = s.data()
			got, n, e := jfmt.Unpack(x.Seq, l...)
			b.WriteString(fmt.Sprint(got, n, e))
			block := s.block()
			bytes, e := jfmt.Encode(block)
			b.WriteString(fmt.Sprint(bytes, e))
		}
		return b.String()
	}
	is(t, "the same calls", said() == said(), true)
}

// What is far too long is refused in time, and what is not is done in time.
func TestTheBound(t *testing.T) {
	begun := time.Now()
	many := make([][]byte, 1<<22)
	copy(many, laid(plain(3, 70)))
	long := api.JTxn{Seq: 1, Writes: make([]api.Redo, 1<<20), Revoked: make([]int, 1<<22)}
	blocks := []api.JBlock{{Kind: 1, Seq: 1, Tags: make([]api.JTag, 1<<22)}, {Kind: 3, Seq: 1, Revoked: make([]int, 1<<22)}}
	huge := make([]byte, 1<<24)
	blocksOfLong := size(1<<20, 1<<22)
	for range 1000 {
		aTxn(t, "Unpack of many", plain(3, 70), 7, many)
		noTxn(t, "Unpack of many", 8, many)
		is(t, "Check of far too many", jfmt.Check(long), errTxn)
		is(t, "Size of far too many", jfmt.Size(long), blocksOfLong)
		for _, x := range blocks {
			is(t, "Encode of far too many", second(jfmt.Encode(x)), errJournal)
		}
		noBlock(t, "Decode of far too many", huge)
		noSuper(t, "DecodeSuper of far too many", huge)
	}
	for range 5 {
		is(t, "Same of many", jfmt.Same(long, api.JTxn{Seq: 1, Writes: slices.Clone(long.Writes), Revoked: slices.Clone(long.Revoked)}), true)
		is(t, "SameBlock of many", jfmt.SameBlock(blocks[1], api.JBlock{Kind: 3, Seq: 1, Revoked: slices.Clone(blocks[1].Revoked)}), true)
		is(t, "Escape of many", len(first(jfmt.Escape(huge)))+len(jfmt.Unescape(huge, true)), 2<<24)
	}
	if took := time.Since(begun); took > 20*time.Second {
		t.Error("it took", took)
	}
}

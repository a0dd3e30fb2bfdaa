package jfmt_test

import (
	"bytes"
	"encoding/binary"
	"fmt"
	"math"
	"math/bits"
	"slices"
	"testing"

	"slipway/api"
	"slipway/jfmt"
)

const (
	errJournal = api.Errno(170)
	errTxn     = api.Errno(171)
	maxSeq     = int64(1) << 48
)

// is ends the test at the first thing that is wrong: of thousands of blocks nobody would read all.
func is[T comparable](t *testing.T, name string, got, want T) {
	t.Helper()
	if got != want {
		t.Fatalf("%s: %#v, want %#v", name, got, want)
	}
}

func sameBytes(t *testing.T, name string, got, want []byte) {
	t.Helper()
	if !bytes.Equal(got, want) {
		t.Fatalf("%s:\n% x\nwant\n% x", name, got, want)
	}
}

func sameBlocks(t *testing.T, name string, got, want [][]byte) {
	t.Helper()
	is(t, name+": how many blocks", len(got), len(want))
	for i := range got {
		if !bytes.Equal(got[i], want[i]) {
			t.Fatalf("%s: block %d:\n% x\nwant\n% x", name, i, got[i], want[i])
		}
	}
}

// oddNumbers are ints at all edges that the chapter names, and far beyond.
var oddNumbers = []int{math.MinInt, math.MinInt + 1, math.MinInt32, -256, -1, 0, 1, 2, 3, 4, 5, 47, 48, 49, 59, 60, 61, 62, 63, 64, 65, 255, 256, 257, 8190, 8191, 8192, 8193, math.MaxInt32, 1<<32 - 1, 1 << 32, 1<<48 - 1, 1 << 48, 1<<48 + 1, math.MaxInt - 1, math.MaxInt}

// stream gives numbers that look mixed and are the same in every run.
type stream uint64

func (s *stream) next() uint64 {
	*s = *s*6364136223846793005 + 1442695040888963407
	return uint64(*s >> 33)
}

func (s *stream) below(n int) int { return int(s.next() % uint64(n)) }

// upTo is a number from least to most, now and then one of these.
func (s *stream) upTo(least, most int) int {
	switch s.below(6) {
	case 0:
		return least
	case 1:
		return most
	}
	return least + s.below(most-least+1)
}

func (s *stream) seq() int64 { return int64(s.upTo(1, 1<<48)) }

// data is a block's bytes: any, few that are not 0, or such as begin with the magic number or nearly so.
func (s *stream) data() []byte {
	b := make([]byte, 256)
	switch s.below(5) {
	case 0:
		for i := range b {
			b[i] = byte(s.next())
		}
	case 1:
		b[s.below(256)] = byte(s.next())
	case 2:
		copy(b, "SLJ!")
	case 3:
		copy(b, "SLJ!")
		b[s.below(4)] ^= byte(1 << s.below(8))
	}
	return b
}

// blocks are n blocks that are all unlike.
func (s *stream) blocks(n int) []int {
	seen := make(map[int]bool)
	var l []int
	for len(l) < n {
		block := s.upTo(0, 8191)
		if !seen[block] {
			seen[block] = true
			l = append(l, block)
		}
	}
	return l
}

// block is one that may be.
func (s *stream) block() api.JBlock {
	x := api.JBlock{Kind: 1 + s.below(3), Seq: s.seq()}
	switch x.Kind {
	case 1:
		for range s.upTo(1, 48) {
			x.Tags = append(x.Tags, api.JTag{Block: s.upTo(0, 8191), Escaped: s.below(2) == 1})
		}
	case 2:
		x.Count = s.upTo(1, 64)
	case 3:
		for range s.upTo(1, 60) {
			x.Revoked = append(x.Revoked, s.upTo(0, 8191))
		}
	}
	return x
}

// txn is a transaction that may be.
func (s *stream) txn() api.JTxn {
	writes, revoked := 0, 0
	for writes+revoked == 0 || size(writes, revoked) > 63 {
		writes, revoked = s.below(3)*s.below(32), s.below(3)*s.upTo(0, 70)
	}
	return s.txnOf(writes, revoked)
}

// txnOf is one of so many writes and revoked blocks.
func (s *stream) txnOf(writes, revoked int) api.JTxn {
	t := api.JTxn{Seq: s.seq()}
	all := s.blocks(writes + revoked)
	for _, block := range all[:writes] {
		t.Writes = append(t.Writes, api.Redo{Block: block, Data: s.data()})
	}
	t.Revoked = all[writes:]
	return t
}

// size is how many blocks so many writes and revoked blocks need, counted one by one.
func size(writes, revoked int) int {
	n := 1
	for i := range revoked {
		if i%60 == 0 {
			n++
		}
	}
	for i := range writes {
		if i%48 == 0 {
			n++
		}
		n++
	}
	return n
}

// What follows lays and reads blocks as the chapter says, without the program's help.

func padded(b []byte) []byte { return append(b, make([]byte, 256-len(b))...) }

// sealed is b and how many of its bits are 0.
func sealed(b []byte) []byte {
	zeros := 0
	for _, x := range b {
		zeros += bits.OnesCount8(^x)
	}
	return binary.BigEndian.AppendUint32(slices.Clone(b), uint32(zeros))
}

func wireSuper(magic string, start uint32, seq uint64) []byte {
	b := binary.BigEndian.AppendUint32([]byte(magic), start)
	b = binary.BigEndian.AppendUint64(b, seq)
	return sealed(padded(b)[:252])
}

// unwireSuper is the first block of which b is the bytes, and whether there is one.
func unwireSuper(b []byte) (api.JSuper, bool) {
	if len(b) != 256 || !bytes.Equal(b, sealed(b[:252])) || string(b[:4]) != "SLJ0" {
		return api.JSuper{}, false
	}
	start, seq := binary.BigEndian.Uint32(b[4:]), binary.BigEndian.Uint64(b[8:])
	if start > 63 || seq < 1 || seq > 1<<48 || !bytes.Equal(b[16:252], make([]byte, 236)) {
		return api.JSuper{}, false
	}
	return api.JSuper{Start: int(start), Seq: int64(seq)}, true
}

func head(kind byte, seq int64, many byte) []byte {
	b := append([]byte("SLJ!"), kind)
	return append(binary.BigEndian.AppendUint64(b, uint64(seq)), many)
}

func wire(x api.JBlock) []byte {
	b := head(byte(x.Kind), x.Seq, byte(len(x.Tags)+len(x.Revoked)+x.Count))
	for _, tag := range x.Tags {
		b = binary.BigEndian.AppendUint32(b, uint32(tag.Block))
		if tag.Escaped {
			b = append(b, 1)
		} else {
			b = append(b, 0)
		}
	}
	for _, block := range x.Revoked {
		b = binary.BigEndian.AppendUint32(b, uint32(block))
	}
	return padded(b)
}

// unwire is the block of which b is the bytes, and whether there is one.
func unwire(b []byte) (api.JBlock, bool) {
	if len(b) != 256 || string(b[:4]) != "SLJ!" {
		return api.JBlock{}, false
	}
	kind, seq, many, at := int(b[4]), binary.BigEndian.Uint64(b[5:13]), int(b[13]), 14
	if seq < 1 || seq > 1<<48 || many < 1 {
		return api.JBlock{}, false
	}
	x := api.JBlock{Kind: kind, Seq: int64(seq)}
	switch {
	case kind == 1 && many <= 48:
		for ; many > 0; many-- {
			block, escaped := binary.BigEndian.Uint32(b[at:]), b[at+4]
			if block > 8191 || escaped > 1 {
				return api.JBlock{}, false
			}
			x.Tags = append(x.Tags, api.JTag{Block: int(block), Escaped: escaped == 1})
			at += 5
		}
	case kind == 2 && many <= 64:
		x.Count = many
	case kind == 3 && many <= 60:
		for ; many > 0; many-- {
			block := binary.BigEndian.Uint32(b[at:])
			if block > 8191 {
				return api.JBlock{}, false
			}
			x.Revoked = append(x.Revoked, int(block))
			at += 4
		}
	default:
		return api.JBlock{}, false
	}
	for _, rest := range b[at:] {
		if rest != 0 {
			return api.JBlock{}, false
		}
	}
	return x, true
}

// laid is a transaction as blocks.
func laid(t api.JTxn) [][]byte {
	var l [][]byte
	for at := 0; at < len(t.Revoked); at += 60 {
		l = append(l, wire(api.JBlock{Kind: 3, Seq: t.Seq, Revoked: t.Revoked[at:min(at+60, len(t.Revoked))]}))
	}
	for at := 0; at < len(t.Writes); at += 48 {
		x := api.JBlock{Kind: 1, Seq: t.Seq}
		var copies [][]byte
		for _, w := range t.Writes[at:min(at+48, len(t.Writes))] {
			data := slices.Clone(w.Data)
			escaped := string(data[:4]) == "SLJ!"
			if escaped {
				data[0], data[1], data[2], data[3] = 0, 0, 0, 0
			}
			copies = append(copies, data)
			x.Tags = append(x.Tags, api.JTag{Block: w.Block, Escaped: escaped})
		}
		l = append(append(l, wire(x)), copies...)
	}
	return append(l, wire(api.JBlock{Kind: 2, Seq: t.Seq, Count: len(l) + 1}))
}

// nothing holds of what is answered with an error.
func nothing(t *testing.T, name string, b []byte, e, want api.Errno) {
	t.Helper()
	is(t, name, e, want)
	is(t, name+" with an error has bytes", b != nil, false)
}

func noBlock(t *testing.T, name string, b []byte) {
	t.Helper()
	x, e := jfmt.Decode(b)
	if e != errJournal || x.Kind != 0 || x.Seq != 0 || x.Tags != nil || x.Revoked != nil || x.Count != 0 {
		t.Fatalf("%s: %+v, %v of\n% x", name, x, e, b)
	}
}

func noSuper(t *testing.T, name string, b []byte) {
	t.Helper()
	s, e := jfmt.DecodeSuper(b)
	if e != errJournal || s != (api.JSuper{}) {
		t.Fatalf("%s: %+v, %v of\n% x", name, s, e, b)
	}
}

func noTxn(t *testing.T, name string, seq int64, l [][]byte) {
	t.Helper()
	x, n, e := jfmt.Unpack(seq, l...)
	if e != errJournal || n != 0 || x.Seq != 0 || x.Writes != nil || x.Revoked != nil {
		t.Fatalf("%s: %+v, %d, %v", name, x, n, e)
	}
}

// aTxn holds if Unpack tells it.
func aTxn(t *testing.T, name string, want api.JTxn, many int, l [][]byte) {
	t.Helper()
	x, n, e := jfmt.Unpack(want.Seq, l...)
	is(t, name, e, api.OK)
	is(t, name+": how many blocks", n, many)
	if !alike(x, want) {
		t.Fatalf("%s: %s, want %s", name, view(x), view(want))
	}
}

// alike holds two transactions against each other without the program's help.
func alike(a, b api.JTxn) bool {
	if a.Seq != b.Seq || len(a.Writes) != len(b.Writes) || !slices.Equal(a.Revoked, b.Revoked) {
		return false
	}
	for i, w := range a.Writes {
		if w.Block != b.Writes[i].Block || string(w.Data) != string(b.Writes[i].Data) {
			return false
		}
	}
	return true
}

// view is all of a transaction as a text.
func view(x api.JTxn) string { return fmt.Sprint(x.Seq, x.Writes, x.Revoked) }

func named(x api.JBlock) string { return fmt.Sprintf("%+v", x) }

package jfmt_test

import (
	"fmt"
	"math"
	"slices"
	"testing"

	"slipway/api"
	"slipway/jfmt"
)

// unlaid is the transaction of a number that blocks begin with, how many these are, and whether there is one: read part by part as Pack lays it, without the program's help.
func unlaid(seq int64, l [][]byte) (api.JTxn, int, bool) {
	x, at := api.JTxn{Seq: seq}, 0
	next := func(kind int) (api.JBlock, bool) {
		if at >= len(l) {
			return api.JBlock{}, false
		}
		b, ok := unwire(l[at])
		return b, ok && b.Kind == kind && b.Seq == seq
	}
	for last := 60; ; at++ {
		b, ok := next(3)
		if !ok {
			break
		}
		if last < 60 {
			return api.JTxn{}, 0, false
		}
		last = len(b.Revoked)
		x.Revoked = append(x.Revoked, b.Revoked...)
	}
	for last := 48; ; {
		b, ok := next(1)
		if !ok {
			break
		}
		at++
		if last < 48 || at+len(b.Tags) > len(l) {
			return api.JTxn{}, 0, false
		}
		last = len(b.Tags)
		for i, tag := range b.Tags {
			data := slices.Clone(l[at+i])
			if len(data) != 256 || tag.Escaped && string(data[:4]) != "\x00\x00\x00\x00" || !tag.Escaped && string(data[:4]) == "SLJ!" {
				return api.JTxn{}, 0, false
			}
			if tag.Escaped {
				copy(data, "SLJ!")
			}
			x.Writes = append(x.Writes, api.Redo{Block: tag.Block, Data: data})
		}
		at += last
	}
	commit, ok := next(2)
	if !ok || commit.Count != at+1 || at+1 > 63 || len(x.Writes)+len(x.Revoked) == 0 || !once(x) {
		return api.JTxn{}, 0, false
	}
	return x, at + 1, true
}

// once tells whether each block comes once; all of them are ones that a disk may have.
func once(x api.JTxn) bool {
	var seen [8192]bool
	all := slices.Clone(x.Revoked)
	for _, w := range x.Writes {
		all = append(all, w.Block)
	}
	for _, block := range all {
		if seen[block] {
			return false
		}
		seen[block] = true
	}
	return true
}

// unpacks holds Unpack against that, and tells whether there is one.
func unpacks(t *testing.T, name string, seq int64, l [][]byte) bool {
	t.Helper()
	want, n, ok := unlaid(seq, l)
	if ok {
		aTxn(t, name, want, n, l)
	} else {
		noTxn(t, name, seq, l)
	}
	return ok
}

// some are transactions with all sorts of blocks: revoke blocks and descriptors that are full and that are not.
func some() []api.JTxn {
	return []api.JTxn{plain(1, 0), plain(0, 1), plain(3, 2), plain(48, 60), plain(49, 61), plain(60, 0), plain(2, 120), plain(50, 130), plain(0, 3720)}
}

func with(l [][]byte, at int, b []byte) [][]byte {
	l = slices.Clone(l)
	l[at] = b
	return l
}

// isCopy tells whether a block of a Pack is a copy.
func isCopy(b []byte) bool { return string(b[:4]) != "SLJ!" }

// behind are blocks that may stand behind a transaction.
func behind() [][][]byte {
	next, same := plain(2, 1), plain(1, 1)
	next.Seq = 8
	return [][][]byte{
		nil, {nil}, {{}}, {nil, nil}, {make([]byte, 256)}, {slices.Repeat([]byte{0xff}, 256)}, {make([]byte, 255)}, {[]byte("SLJ!")},
		laid(next), laid(same), laid(same)[2:], laid(next)[3:], slices.Repeat([][]byte{wire(api.JBlock{Kind: 2, Seq: 7, Count: 64})}, 70), laid(plain(60, 0)),
	}
}

func TestP174Behind(t *testing.T) {
	for _, x := range some() {
		for _, more := range behind() {
			l := slices.Concat(laid(x), more)
			aTxn(t, "Unpack", x, len(laid(x)), l)
			is(t, "the other way", unpacks(t, "Unpack", 7, l), true)
			// What stands ahead is no beginning.
			if len(more) > 0 {
				unpacks(t, "Unpack with something ahead", 7, slices.Concat(more, laid(x)))
				unpacks(t, "Unpack with something ahead", 8, slices.Concat(more, laid(x)))
			}
		}
	}
}

func TestP174Seqs(t *testing.T) {
	for _, x := range some() {
		for _, of := range []int64{1, 7, 1 << 32, maxSeq} {
			x.Seq = of
			for _, seq := range []int64{math.MinInt64, -of, -1, 0, 1, 6, 7, 8, of - 1, of, of + 1, of + 256, of + 1<<32, maxSeq, maxSeq + 1, math.MaxInt64} {
				if seq != of {
					noTxn(t, "Unpack of another number", seq, laid(x))
				}
			}
			aTxn(t, "Unpack", x, len(laid(x)), laid(x))
		}
		// A number that none may have.
		for _, of := range []int64{-1, 0, maxSeq + 1} {
			x.Seq = of
			noTxn(t, "Unpack of such a number", of, laid(x))
		}
	}
}

func TestP174None(t *testing.T) {
	for _, seq := range []int64{math.MinInt64, -1, 0, 1, 7, maxSeq, maxSeq + 1, math.MaxInt64} {
		noTxn(t, "Unpack of no block", seq, nil)
		noTxn(t, "Unpack of no block", seq, [][]byte{})
		for _, more := range behind()[1:8] {
			noTxn(t, "Unpack of what is none", seq, more)
		}
	}
}

// Without each one of the blocks, whatever stands behind.
func TestP174Without(t *testing.T) {
	t.Parallel()
	for _, x := range some() {
		l := laid(x)
		for at := range l {
			noTxn(t, "Unpack without a block", 7, slices.Delete(slices.Clone(l), at, at+1))
			noTxn(t, "Unpack without those from a block on", 7, l[:at])
			for _, more := range behind() {
				unpacks(t, "Unpack without a block", 7, slices.Concat(l[:at], l[at+1:], more))
				unpacks(t, "Unpack without those from a block on", 7, slices.Concat(l[:at], more))
			}
			if at > 0 {
				noTxn(t, "Unpack without those up to a block", 7, l[at:])
			}
			if at < len(l)-1 {
				noTxn(t, "Unpack with a block twice", 7, slices.Insert(slices.Clone(l), at, l[at]))
			}
		}
	}
}

// With each one changed for another one.
func TestP174Changed(t *testing.T) {
	t.Parallel()
	others := [][]byte{
		nil, {}, make([]byte, 255), make([]byte, 257), []byte("SLJ!"), []byte{0, 0, 0},
		make([]byte, 256), slices.Repeat([]byte{0xff}, 256), padded([]byte("SLJ0")), padded([]byte("SLJ!")), padded([]byte{0, 0, 0, 0, 1}), padded([]byte{0, 0, 0, 1}),
		wire(api.JBlock{Kind: 1, Seq: 7, Tags: tags(1)}), wire(api.JBlock{Kind: 2, Seq: 7, Count: 3}), wire(api.JBlock{Kind: 3, Seq: 7, Revoked: revoked(1)}), wireSuper("SLJ0", 1, 7),
	}
	for _, x := range some() {
		l, another := laid(x), x
		for _, another.Seq = range []int64{6, 8, 7 + 256, 7 + 1<<32} {
			for at, b := range laid(another) {
				if !isCopy(b) {
					noTxn(t, "Unpack with one of another number", 7, with(l, at, b))
				}
			}
		}
		for at, b := range l {
			for _, other := range others {
				ok := unpacks(t, "Unpack with another block", 7, with(l, at, other))
				if _, block := unwire(other); ok && !block && (!isCopy(b) || len(other) != 256) {
					t.Fatal("Unpack with what is none:", at, other)
				}
			}
			noTxn(t, "Unpack with one that is too short", 7, with(l, at, b[:255]))
			noTxn(t, "Unpack with one that is too long", 7, with(l, at, append(slices.Clone(b), 0)))
		}
	}
}

// A copy may be any bytes, if its tag goes with them.
func TestP174Copies(t *testing.T) {
	x := plain(5, 1)
	l := laid(x)
	for at := 2; at < 7; at++ {
		escaped := at == 4
		is(t, "zeros", unpacks(t, "Unpack with zeros", 7, with(l, at, make([]byte, 256))), true)
		is(t, "others", unpacks(t, "Unpack with other bytes", 7, with(l, at, padded([]byte{1, 2, 3}))), !escaped)
		is(t, "the magic number", unpacks(t, "Unpack with the magic number", 7, with(l, at, padded([]byte("SLJ!")))), false)
		is(t, "a block", unpacks(t, "Unpack with a commit", 7, with(l, at, l[7])), false)
	}
	// An Escaped that is wrong; a copy that begins with zeros may be the one or the other.
	for at := range 5 {
		b := slices.Clone(l[1])
		b[14+5*at+4] ^= 1
		is(t, "another Escaped", unpacks(t, "Unpack with another Escaped", 7, with(l, 1, b)), at == 2)
		is(t, "zeros", unpacks(t, "Unpack with another Escaped and zeros", 7, with(with(l, 1, b), 2+at, make([]byte, 256))), true)
	}
}

func TestP174EachTwoChanged(t *testing.T) {
	t.Parallel()
	told := 0
	for _, x := range some() {
		l := laid(x)
		if len(x.Revoked) > 600 {
			l = laid(plain(0, 600))
		}
		for one := range l {
			for other := range one {
				changed := with(with(l, one, l[other]), other, l[one])
				if unpacks(t, "Unpack with two in each other's place", 7, changed) {
					told++
				} else if isCopy(l[one]) && isCopy(l[other]) && l[one][0] != 0 && l[other][0] != 0 {
					t.Fatal("two copies that are not escaped may change places")
				}
			}
		}
	}
	is(t, "some of them are transactions", told > 1000, true)
}

func TestP174Counts(t *testing.T) {
	for _, x := range some() {
		l := laid(x)
		for many := range 256 {
			b := slices.Clone(l[len(l)-1])
			b[13] = byte(many)
			changed := with(l, len(l)-1, b)
			if many == len(l) {
				aTxn(t, "Unpack", x, len(l), changed)
			} else {
				noTxn(t, "Unpack with another Count", 7, changed)
			}
		}
	}
}

// Each byte of blocks that are no copies turned, and the first eight of copies.
func TestP174EachByteTurned(t *testing.T) {
	for _, x := range []api.JTxn{plain(1, 0), plain(0, 1), plain(3, 2)} {
		l := laid(x)
		for at, b := range l {
			end := 256
			if isCopy(b) {
				end = 8
			}
			for i := range end {
				for _, by := range []byte{1, 2, 4, 8, 16, 32, 64, 128, 0xff} {
					c := slices.Clone(b)
					c[i] ^= by
					unpacks(t, "Unpack with a byte turned", 7, with(l, at, c))
				}
			}
		}
	}
}

// laidAs is a descriptor of these writes and their copies.
func laidAs(writes []api.Redo) [][]byte {
	l := laid(api.JTxn{Seq: 7, Writes: writes})
	return l[:len(l)-1]
}

func revokes(blocks ...int) [][]byte {
	return [][]byte{wire(api.JBlock{Kind: 3, Seq: 7, Revoked: blocks})}
}

// commits is the blocks, and a commit of how many they are.
func commits(parts ...[][]byte) [][]byte {
	l := slices.Concat(parts...)
	return append(l, wire(api.JBlock{Kind: 2, Seq: 7, Count: len(l) + 1}))
}

// Blocks that are right one by one, and that Pack does not make.
func TestP174NotPacked(t *testing.T) {
	w, r := plain(60, 0).Writes, plain(0, 130).Revoked
	aTxn(t, "such as Pack makes", plain(3, 2), 6, commits(revokes(r[:2]...), laidAs(w[:3])))
	for name, l := range map[string][][]byte{
		"a descriptor of fewer tags that another one follows":          commits(laidAs(w[:2]), laidAs(w[2:4])),
		"one of 47 tags that another one follows":                      commits(laidAs(w[:47]), laidAs(w[47:50])),
		"one of fewer tags ahead of a full one":                        commits(laidAs(w[:1]), laidAs(w[1:49])),
		"a revoke block of fewer that another one follows":             commits(revokes(r[:2]...), revokes(r[2:4]...)),
		"one of 59 that another one follows":                           commits(revokes(r[:59]...), revokes(r[59:70]...), laidAs(w[:1])),
		"one of fewer ahead of a full one":                             commits(revokes(r[0]), revokes(r[1:61]...)),
		"a revoke block behind writes":                                 commits(laidAs(w[:2]), revokes(r[:2]...)),
		"a full revoke block between writes":                           commits(laidAs(w[:48]), revokes(r[:60]...), laidAs(w[48:49])),
		"revoke blocks on both sides of writes":                        commits(revokes(r[:60]...), laidAs(w[:48]), revokes(r[60:61]...)),
		"a block twice in a descriptor":                                commits(laidAs([]api.Redo{w[0], w[1], w[0]})),
		"a block in two descriptors":                                   commits(laidAs(w[:48]), laidAs(w[:1])),
		"a block twice in a revoke block":                              commits(revokes(4, 5, 4)),
		"a block in two revoke blocks":                                 commits(revokes(r[:60]...), revokes(r[59])),
		"a block written and revoked":                                  commits(revokes(w[1].Block), laidAs(w[:2])),
		"neither":                                                      commits(),
		"a commit ahead of the right one":                              commits(laidAs(w[:2]), [][]byte{wire(api.JBlock{Kind: 2, Seq: 7, Count: 5})}),
		"a commit that is too early":                                   commits([][]byte{wire(api.JBlock{Kind: 2, Seq: 7, Count: 4})}, laidAs(w[:2])),
		"one write more than there may be":                             commits(laidAs(plain(61, 0).Writes[:48]), laidAs(plain(61, 0).Writes[48:])),
		"one block more than there may be":                             commits(revokes(r[:60]...), revokes(r[60:120]...), laidAs(w[:48]), laidAs(w[48:59])),
		"another's blocks between":                                     commits(laidAs(w[:48]), laid(api.JTxn{Seq: 8, Writes: w[48:49]})),
		"a descriptor of another number between":                       commits(laidAs(w[:48]), laid(api.JTxn{Seq: 8, Writes: w[48:49]})[:2]),
		"a first block ahead":                                          commits([][]byte{wireSuper("SLJ0", 1, 7)}, laidAs(w[:2])),
		"a descriptor without copies":                                  commits(laidAs(w[:2])[:1]),
		"a descriptor without its last copy":                           commits(laidAs(w[:2])[:2]),
		"a copy more than there are tags":                              commits(laidAs(w[:2]), [][]byte{w[2].Data}),
		"a copy that is not escaped":                                   commits(laidAs(w[2:3])[:1], [][]byte{w[2].Data}),
		"a copy that is escaped in vain":                               commits(laidAs(w[2:3])[:1], [][]byte{w[0].Data}),
		"a copy whose first bytes are not all 0":                       commits(laidAs(w[2:3])[:1], [][]byte{padded([]byte{0, 0, 0, 1})}),
		"a commit whose bytes behind are not all 0":                    append(laidAs(w[:1]), append(commits(laidAs(w[:1]))[2][:255], 1)),
		"a revoke block that is no whole block":                        commits([][]byte{revokes(5)[0][:18]}),
		"a revoke block that says more than it has room for, at least": commits([][]byte{padded(head(3, 7, 61))}),
	} {
		noTxn(t, name, 7, l)
		is(t, name, unpacks(t, name, 7, l), false)
	}
}

// A descriptor whose copies are cut off at each place, and what a commit says then.
func TestP174CutOff(t *testing.T) {
	x := plain(48, 0)
	l := laid(x)
	for at := range l {
		for many := 1; many <= 64; many++ {
			unpacks(t, "cut off", 7, append(slices.Clone(l[:at]), wire(api.JBlock{Kind: 2, Seq: 7, Count: many})))
		}
	}
}

// Rows of blocks put together of parts: whatever they are.
func TestP174Any(t *testing.T) {
	var s stream = 21
	told := 0
	for range 20000 {
		var l [][]byte
		x := s.txnOf(1+s.below(3), 1+s.below(3))
		x.Seq = 7
		y := s.txnOf(s.below(2), 1)
		y.Seq = int64(7 + s.below(2))
		pool := slices.Concat(laid(x), laid(y))
		l = slices.Clone(pool)
		for range s.below(3) {
			switch at := s.below(len(l)); s.below(4) {
			case 0:
				l = slices.Delete(l, at, at+1)
			case 1:
				l = slices.Insert(l, at, pool[s.below(len(pool))])
			case 2:
				l[at] = pool[s.below(len(pool))]
			case 3:
				b := slices.Clone(l[at])
				b[s.below(24)] = byte(s.below(8))
				l[at] = b
			}
		}
		for seq := int64(6); seq < 9; seq++ {
			if unpacks(t, "any", seq, l) {
				told++
			}
		}
	}
	is(t, "some of them are transactions", told > 3000, true)
}

// unlike are transactions of which no two are the same.
func unlike() []api.JTxn {
	a, b := []byte{1, 2}, []byte{1, 3}
	return []api.JTxn{
		{}, {Seq: 1}, {Seq: -1}, {Seq: 1 << 32},
		{Revoked: []int{0}}, {Revoked: []int{1}}, {Revoked: []int{0, 0}}, {Revoked: []int{0, 1}}, {Revoked: []int{1, 0}}, {Seq: 1, Revoked: []int{0}}, {Revoked: []int{1 << 32}}, {Revoked: []int{math.MinInt}},
		{Writes: []api.Redo{{}}}, {Writes: []api.Redo{{Block: 1}}}, {Writes: []api.Redo{{}, {}}}, {Writes: []api.Redo{{Data: a}}}, {Writes: []api.Redo{{Data: b}}}, {Writes: []api.Redo{{Data: a[:1]}}}, {Writes: []api.Redo{{Data: []byte{0}}}},
		{Writes: []api.Redo{{Block: 1, Data: a}}}, {Writes: []api.Redo{{Block: 1, Data: a}, {Block: 2, Data: b}}}, {Writes: []api.Redo{{Block: 2, Data: b}, {Block: 1, Data: a}}}, {Writes: []api.Redo{{Block: 1, Data: b}, {Block: 2, Data: a}}},
		{Seq: 1, Writes: []api.Redo{{}}}, {Writes: []api.Redo{{}}, Revoked: []int{0}}, plain(3, 2), plain(2, 3), plain(60, 0),
	}
}

func unlikeBlocks() []api.JBlock {
	return []api.JBlock{
		{}, {Kind: 1}, {Kind: -1}, {Kind: 2}, {Seq: 1}, {Seq: -1}, {Count: 1}, {Count: -1}, {Kind: 1 << 32}, {Seq: 1 << 32}, {Count: 1 << 32},
		{Tags: []api.JTag{{}}}, {Tags: []api.JTag{{}, {}}}, {Tags: []api.JTag{{Block: 1}}}, {Tags: []api.JTag{{Escaped: true}}}, {Tags: []api.JTag{{Block: 1, Escaped: true}}}, {Tags: []api.JTag{{Block: 1}, {}}}, {Tags: []api.JTag{{}, {Block: 1}}},
		{Revoked: []int{0}}, {Revoked: []int{1}}, {Revoked: []int{0, 0}}, {Revoked: []int{0, 1}}, {Revoked: []int{1, 0}}, {Revoked: []int{math.MinInt}},
		{Kind: 1, Seq: 1, Count: 1, Tags: []api.JTag{{Block: 1}}, Revoked: []int{1}}, {Kind: 1, Seq: 1, Count: 2, Tags: []api.JTag{{Block: 1}}, Revoked: []int{1}},
	}
}

func TestP174Same(t *testing.T) {
	for i, a := range unlike() {
		for k, b := range unlike() {
			if jfmt.Same(a, b) != (i == k) {
				t.Fatal("Same of", view(a), "and", view(b))
			}
		}
	}
	is(t, "Same of empty and nil Writes", jfmt.Same(api.JTxn{Seq: 3, Writes: []api.Redo{}}, api.JTxn{Seq: 3}), true)
	is(t, "Same of empty and nil Revoked", jfmt.Same(api.JTxn{Seq: 3}, api.JTxn{Seq: 3, Revoked: []int{}}), true)
	is(t, "Same of empty and nil Data", jfmt.Same(api.JTxn{Writes: []api.Redo{{Block: 3, Data: []byte{}}}}, api.JTxn{Writes: []api.Redo{{Block: 3}}}), true)
	// Each byte of each write.
	for i := range 3 {
		for at := range 256 {
			a, b := plain(3, 1), plain(3, 1)
			is(t, "Same of two alike", jfmt.Same(a, b), true)
			b.Writes[i].Data[at]++
			is(t, "Same with another byte", jfmt.Same(a, b) || jfmt.Same(b, a), false)
		}
	}
}

func TestP174SameBlock(t *testing.T) {
	for i, a := range unlikeBlocks() {
		for k, b := range unlikeBlocks() {
			if jfmt.SameBlock(a, b) != (i == k) {
				t.Fatal("SameBlock of", named(a), "and", named(b))
			}
		}
	}
	for _, x := range append(good(), api.JBlock{}) {
		y := x
		y.Tags, y.Revoked = append([]api.JTag{}, x.Tags...), append([]int{}, x.Revoked...)
		is(t, fmt.Sprint("SameBlock of empty and nil lists of ", x), jfmt.SameBlock(x, y) && jfmt.SameBlock(y, x), true)
	}
}

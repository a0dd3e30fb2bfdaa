package jfmt_test

import (
	"math"
	"slices"
	"testing"

	"slipway/api"
	"slipway/jfmt"
)

// plain is a transaction of so many writes and revoked blocks, all of them unlike.
func plain(writes, revoked int) api.JTxn {
	t := api.JTxn{Seq: 7}
	for i := range writes {
		data := slices.Repeat([]byte{byte(i + 1)}, 256)
		if i%5 == 2 {
			copy(data, "SLJ!")
		}
		t.Writes = append(t.Writes, api.Redo{Block: 8191 - i*7, Data: data})
	}
	for i := range revoked {
		t.Revoked = append(t.Revoked, (i*17+3)%7001)
	}
	return t
}

// atEdges are numbers of revoked blocks around what one block has, and around the most of all.
func atEdges() []int {
	var l []int
	for many := 0; many <= 63*60; many += 60 {
		if many < 300 || many > 3500 {
			l = append(l, many, many+1, many+59)
		}
	}
	return l
}

func counted(ok bool) api.Errno {
	if ok {
		return api.OK
	}
	return errTxn
}

// packed holds Check and Pack of a transaction against what they ought to answer.
func packed(t *testing.T, name string, x api.JTxn, ok bool) {
	t.Helper()
	is(t, "Check of "+name, jfmt.Check(x), counted(ok))
	l, e := jfmt.Pack(x)
	is(t, "Pack of "+name, e, counted(ok))
	if !ok {
		is(t, "Pack of "+name+" with an error has blocks", l != nil, false)
		return
	}
	sameBlocks(t, "Pack of "+name, l, laid(x))
	is(t, "Size of "+name, jfmt.Size(x), len(l))
}

func TestP173Seqs(t *testing.T) {
	for _, seq := range []int64{math.MinInt64, math.MinInt64 + 1, -maxSeq, -1, 0, 1, 2, 255, 256, 1 << 32, maxSeq - 1, maxSeq, maxSeq + 1, 1 << 60, math.MaxInt64} {
		for _, x := range []api.JTxn{plain(1, 0), plain(0, 1), plain(3, 61)} {
			x.Seq = seq
			packed(t, "such a Seq", x, seq >= 1 && seq <= maxSeq)
		}
	}
}

func TestP173Neither(t *testing.T) {
	for _, x := range []api.JTxn{{Seq: 1}, {Seq: 1, Writes: []api.Redo{}}, {Seq: 1, Revoked: []int{}}, {Seq: 1, Writes: []api.Redo{}, Revoked: []int{}}, {}} {
		packed(t, "neither", x, false)
		is(t, "Size", jfmt.Size(x), 1)
	}
}

// Each number of writes with each number of revoked blocks that is at an edge: just as many as have room, and one more.
func TestP173Sizes(t *testing.T) {
	for writes := range 70 {
		for _, revoked := range atEdges() {
			x, n := plain(writes, revoked), size(writes, revoked)
			if writes%8 > 3 && revoked > 70 && revoked < 3000 {
				continue
			}
			is(t, "Size", jfmt.Size(x), n)
			packed(t, "so many", x, n <= 63 && writes+revoked > 0)
		}
	}
	is(t, "a transaction of one write", len(first(jfmt.Pack(plain(1, 0)))), 3)
	is(t, "a transaction of one revoked block", len(first(jfmt.Pack(plain(0, 1)))), 2)
	for _, edge := range []struct {
		writes, revoked, blocks int
	}{{60, 0, 63}, {61, 0, 64}, {0, 3720, 63}, {0, 3721, 64}, {48, 0, 50}, {49, 0, 52}, {48, 13 * 60, 63}, {48, 13*60 + 1, 64}, {59, 60, 63}, {59, 61, 64}, {1, 60 * 60, 63}, {1, 60*60 + 1, 64}} {
		x := plain(edge.writes, edge.revoked)
		is(t, "Size", jfmt.Size(x), edge.blocks)
		is(t, "Check", jfmt.Check(x), counted(edge.blocks <= 63))
	}
}

// Size says how many blocks Pack would have, also of what Check refuses.
func TestP173SizeOfRefused(t *testing.T) {
	is(t, "Size of nothing", jfmt.Size(api.JTxn{}), 1)
	for _, writes := range []int{1, 47, 48, 49, 95, 96, 97, 1000} {
		for _, revoked := range []int{0, 1, 59, 60, 61, 119, 120, 121, 5000} {
			x := api.JTxn{Writes: make([]api.Redo, writes), Revoked: make([]int, revoked)}
			is(t, "Size", jfmt.Size(x), size(writes, revoked))
			is(t, "Check", jfmt.Check(x), errTxn)
		}
	}
}

func TestP173Blocks(t *testing.T) {
	for _, block := range []int{math.MinInt, -8192, -1, 0, 8191, 8192, 8193, 1 << 16, 1 << 32, 1<<32 + 1, math.MaxInt} {
		ok := block == 0 || block == 8191
		for _, n := range []int{1, 2, 48, 49, 60} {
			for _, at := range []int{0, n / 2, n - 1} {
				x := plain(n, 0)
				x.Writes[0].Block = 5
				x.Writes[at].Block = block
				packed(t, "a write to such a block", x, ok)
				x = plain(0, n)
				x.Revoked[at] = block
				packed(t, "such a revoked block", x, ok)
				x = plain(1, n)
				x.Writes[0].Block = 8190
				x.Revoked[at] = block
				packed(t, "such a revoked block", x, ok)
			}
		}
	}
}

func TestP173Twice(t *testing.T) {
	for _, n := range []int{2, 3, 48, 49, 60} {
		for one := range n {
			for _, other := range []int{0, 1, n / 2, n - 1} {
				x := plain(n, 0)
				x.Writes[one].Block = x.Writes[other].Block
				packed(t, "a block in the Writes", x, one == other)
				x = plain(0, n)
				x.Revoked[one] = x.Revoked[other]
				packed(t, "a block in the Revoked", x, one == other)
				if n < 49 {
					x = plain(n, n)
					x.Writes[one].Block = x.Revoked[other]
					packed(t, "a block in each", x, false)
				}
			}
		}
	}
	x := plain(1, 3600)
	packed(t, "many", x, true)
	x.Writes[0].Block = x.Revoked[3599]
	packed(t, "a block in each", x, false)
	x = plain(0, 3720)
	x.Revoked[3719] = x.Revoked[0]
	packed(t, "a block in the Revoked", x, false)
	// The same bytes may come twice.
	x = plain(2, 0)
	x.Writes[1].Data = x.Writes[0].Data
	packed(t, "the same bytes", x, true)
}

func TestP173Data(t *testing.T) {
	for _, n := range []int{0, 1, 3, 4, 5, 128, 254, 255, 256, 257, 258, 512, 1 << 16} {
		for _, at := range []int{0, 1, 47, 48, 59} {
			for _, begins := range []string{"", "SLJ!", "\x00"} {
				x := plain(60, 0)
				x.Writes[at].Data = make([]byte, n)
				copy(x.Writes[at].Data, begins)
				packed(t, "Data of such a length", x, n == 256)
			}
		}
	}
	x := plain(2, 0)
	x.Writes[1].Data = nil
	packed(t, "no Data", x, false)
}

// The blocks as a person would write them: revoke block, descriptor, copies, commit.
func TestP173PackByHand(t *testing.T) {
	a, b := slices.Repeat([]byte{1}, 256), padded([]byte("SLJ!x"))
	l, e := jfmt.Pack(api.JTxn{Seq: 7, Writes: []api.Redo{{Block: 20, Data: a}, {Block: 5, Data: b}}, Revoked: []int{9, 4}})
	is(t, "Pack", e, api.OK)
	sameBlocks(t, "Pack", l, [][]byte{
		padded([]byte{0x53, 0x4c, 0x4a, 0x21, 3, 0, 0, 0, 0, 0, 0, 0, 7, 2, 0, 0, 0, 9, 0, 0, 0, 4}),
		padded([]byte{0x53, 0x4c, 0x4a, 0x21, 1, 0, 0, 0, 0, 0, 0, 0, 7, 2, 0, 0, 0, 20, 0, 0, 0, 0, 5, 1}),
		a,
		padded([]byte{0, 0, 0, 0, 'x'}),
		padded([]byte{0x53, 0x4c, 0x4a, 0x21, 2, 0, 0, 0, 0, 0, 0, 0, 7, 5}),
	})
	// A write more than a descriptor has: the next one comes behind the copies.
	l, e = jfmt.Pack(plain(49, 61))
	is(t, "Pack", e, api.OK)
	is(t, "how many", len(l), 54)
	for at, kind := range map[int]byte{0: 3, 1: 3, 2: 1, 51: 1, 53: 2} {
		is(t, "the kind", string(l[at][:5]), "SLJ!"+string([]byte{kind}))
	}
	for at, many := range map[int]byte{0: 60, 1: 1, 2: 48, 51: 1, 53: 54} {
		is(t, "how many", l[at][13], many)
	}
}

// Any transactions: in the order in which they were handed in, nothing sorted.
func TestP173Pack(t *testing.T) {
	var s stream = 11
	for range 3000 {
		packed(t, "any", s.txn(), true)
	}
}

func TestP173CheckOfAny(t *testing.T) {
	var s stream = 12
	taken, refused := 0, 0
	for range 20000 {
		x := s.txnOf(s.below(4), s.below(4))
		ok := len(x.Writes)+len(x.Revoked) > 0
		if len(x.Writes) > 0 && s.below(4) == 0 {
			w := &x.Writes[s.below(len(x.Writes))]
			switch s.below(3) {
			case 0:
				w.Data = w.Data[:s.below(256)]
				ok = false
			case 1:
				w.Block = oddNumbers[s.below(len(oddNumbers))]
			case 2:
				w.Block = x.Writes[0].Block
			}
		}
		if len(x.Revoked) > 0 && s.below(4) == 0 {
			x.Revoked[0] = slices.Concat(x.Revoked, []int{-1, 8192})[s.below(len(x.Revoked)+2)]
		}
		seen := make(map[int]bool)
		for _, w := range x.Writes {
			ok = ok && w.Block >= 0 && w.Block < 8192 && !seen[w.Block]
			seen[w.Block] = true
		}
		for _, block := range x.Revoked {
			ok = ok && block >= 0 && block < 8192 && !seen[block]
			seen[block] = true
		}
		packed(t, "any", x, ok)
		if ok {
			taken++
		} else {
			refused++
		}
	}
	is(t, "enough of both", taken > 5000 && refused > 3000, true)
}

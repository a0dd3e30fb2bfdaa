package mapjnl_test

import (
	"math"
	"testing"

	"slipway/api"
	"slipway/mapjnl"
)

func replays(t *testing.T, name string, want api.MapState, wantGen int64, l ...api.MapPage) {
	t.Helper()
	x, gen, e := mapjnl.Replay(len(want.Bad), l...)
	made(t, name, x, e, want)
	if gen != wantGen {
		t.Errorf("%s: gen %d, want %d", name, gen, wantGen)
	}
}

func TestP65Replay(t *testing.T) {
	for _, n := range []int{16, 64, 65, 128, 256} {
		replays(t, "no pages", of(n), 0)
		replays(t, "a page that knows nothing", of(n), 9, recordPage(9))
		replays(t, "a part", of(n, bad(1), wear(1, 5), seq(3)), 1, partPage(1, 0, of(16, bad(1), wear(1, 5), seq(3))))
		replays(t, "records", of(n, bad(1), wear(0, 5), seq(3)), 1, recordPage(1, isUsed(3), isBad(1), isWorn(0, 5)))
	}
	replays(t, "all together", of(70, bad(1, 2, 64), wear(1, 5), wear(69, 9), seq(8)), 7,
		partPage(7, 0, of(64, bad(1), wear(1, 5), seq(3))),
		recordPage(2, isUsed(8), isBad(2), isWorn(1, 4), isWorn(69, 9)),
		partPage(3, 1, of(6, bad(0), wear(5, 1), seq(1))))
	replays(t, "the least is not the last", of(16, wear(3, 7), seq(5)), 6,
		recordPage(6, isWorn(3, 7), isUsed(5)), recordPage(1, isWorn(3, 2), isUsed(1)), partPage(2, 0, of(16, wear(3, 1), seq(2))))
	replays(t, "the ends", of(256, wear(255, api.MaxWear), bad(0, 255), seq(api.MaxSeq)), api.MaxGen,
		recordPage(api.MaxGen, isWorn(255, api.MaxWear), isUsed(api.MaxSeq), isBad(0), isBad(255)))
	for _, blocks := range []int{api.MinBlocks - 1, api.MaxBlocks + 1, 0, -1, math.MaxInt, math.MinInt} {
		for _, l := range [][]api.MapPage{nil, {}, {recordPage(5, isUsed(1))}, {{}}} {
			x, gen, e := mapjnl.Replay(blocks, l...)
			refused(t, "blocks that New refuses", x, e, api.ErrGeometry)
			if gen != 0 {
				t.Error("gen beside an error:", gen)
			}
		}
	}
}

// What is told of blocks that there are not counts for nothing; Seq and Gen beside it count.
func TestP65BlocksThatThereAreNot(t *testing.T) {
	all := of(64, seq(3))
	for i := range 64 {
		all.Bad[i], all.Wear[i] = true, int64(i+1)
	}
	for _, n := range []int{16, 17, 63, 64, 65, 70, 127, 128, 129, 200, 255, 256} {
		for number := range 4 {
			want := of(n, seq(3))
			for i := range n {
				if i/64 == number {
					want.Bad[i], want.Wear[i] = true, int64(i%64+1)
				}
			}
			replays(t, "a part", want, 4, partPage(4, number, all))
		}
	}
	replays(t, "the last one", of(16, bad(15), wear(15, 2)), 4, recordPage(4, isBad(15), isBad(16), isWorn(16, 2), isWorn(15, 2), isBad(255)))
	replays(t, "some in the midst", of(65, bad(64, 3), wear(64, 2), seq(8)), 4,
		recordPage(4, isBad(65), isBad(64), isWorn(200, 2), isWorn(64, 2), isUsed(8), isBad(255), isBad(3)))
	replays(t, "none of them", of(16), 4, recordPage(4, isBad(16), isWorn(255, 1)))
}

// Pages of which Bytes has an error count for nothing, nor does their Gen.
func TestP65WrongPages(t *testing.T) {
	right := partPage(5, 0, of(16, bad(1), wear(2, 3), seq(4)))
	want := of(16, bad(1), wear(2, 3), seq(4))
	for name, p := range wrongPages() {
		replays(t, name, of(16), 0, p)
		replays(t, name+", behind one that is right", want, 5, right, p)
		replays(t, name+", ahead of one that is right", want, 5, p, right)
		p.Gen = api.MaxGen
		if _, e := mapjnl.Bytes(p); e != api.OK {
			replays(t, name+", with the greatest Gen", want, 5, right, p, right)
		}
	}
	replays(t, "a record that may not be takes the others with it", of(16), 0, recordPage(9, isBad(1), isWorn(1, -1), isUsed(3)))
	replays(t, "so does a wear", of(16), 0, partPage(9, 0, of(16, bad(1), wear(15, -1), seq(3))))
	replays(t, "and one more record than go in", of(16), 0, recordPage(9, append(full(), isBad(3))...))
}

// full is as many records as go in.
func full() []api.MapRecord {
	var l []api.MapRecord
	for range api.MaxRecords {
		l = append(l, isBad(1))
	}
	return l
}

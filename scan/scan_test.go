package scan_test

import (
	"iter"
	"math"
	"slices"
	"testing"

	"slipway/api"
	"slipway/page"
	"slipway/plan"
	"slipway/scan"
	"slipway/seal"
)

// stream is a row of numbers that is the same each time.
type stream uint64

func (s *stream) next() uint64 {
	*s = *s*6364136223846793005 + 1442695040888963407
	return uint64(*s >> 33)
}

func (s *stream) below(n int) int { return int(s.next() % uint64(n)) }

var nowhere = api.Place{Phys: -1}

func at(phys, number int) api.Place { return api.Place{Phys: phys, Page: number} }

func data(p int, seq, stamp int64) api.Header {
	return api.Header{Kind: api.PgData, Page: p, Seq: seq, Stamp: stamp}
}

func log(p int, seq int64) api.Header {
	return api.Header{Kind: api.PgLog, Page: p, Seq: seq, Stamp: seq}
}

func anchor(p int, seq int64) api.Header {
	return api.Header{Kind: api.PgAnchor, Page: p, Seq: seq, Stamp: seq}
}

// found is a page in a log, of which no more counts than where it is, which one, and how new.
func found(phys, number, p int, seq int64) api.Found {
	return api.Found{At: at(phys, number), H: log(p, seq)}
}

// places are those of so many pages: nowhere, but for some.
func places(n int, some map[int]api.Place) []api.Place {
	l := slices.Repeat([]api.Place{nowhere}, n)
	for p, place := range some {
		l[p] = place
	}
	return l
}

// named is a header with what is to be said of it.
type named struct {
	name string
	h    api.Header
}

// badHeaders are such as page.Check refuses, with great numbers wherever they may be.
func badHeaders(p int) []named {
	const most = api.MaxSeq
	return []named{
		{"Kind 0", api.Header{Kind: 0, Page: p, Seq: most, Stamp: most}},
		{"Kind 4", api.Header{Kind: 4, Page: p, Seq: most, Stamp: most}},
		{"Kind -1", api.Header{Kind: -1, Page: p, Seq: most, Stamp: most}},
		{"Page -1", api.Header{Kind: api.PgLog, Page: -1, Seq: most, Stamp: most}},
		{"Page MaxLogical", api.Header{Kind: api.PgLog, Page: api.MaxLogical, Seq: most, Stamp: most}},
		{"Seq 0", api.Header{Kind: api.PgData, Page: p, Seq: 0, Stamp: most}},
		{"Seq -1", api.Header{Kind: api.PgData, Page: p, Seq: -1, Stamp: most}},
		{"Seq past MaxSeq", api.Header{Kind: api.PgData, Page: p, Seq: most + 1, Stamp: most + 1}},
		{"Stamp past MaxSeq", api.Header{Kind: api.PgData, Page: p, Seq: most, Stamp: most + 1}},
		{"Stamp below Seq", api.Header{Kind: api.PgData, Page: p, Seq: most, Stamp: most - 1}},
		{"PgLog, a copy", api.Header{Kind: api.PgLog, Page: p, Seq: most - 1, Stamp: most}},
		{"PgAnchor, a copy", api.Header{Kind: api.PgAnchor, Page: p, Seq: most - 1, Stamp: most}},
		{"nothing", api.Header{}},
		{"the greatest of all", api.Header{Kind: math.MaxInt, Page: math.MaxInt, Seq: math.MaxInt64, Stamp: math.MaxInt64}},
		{"the least of all", api.Header{Kind: math.MinInt, Page: math.MinInt, Seq: math.MinInt64, Stamp: math.MinInt64}},
	}
}

func TestBadHeadersAreBad(t *testing.T) {
	for _, bad := range badHeaders(1) {
		name, h := bad.name, bad.h
		if page.Check(h) == api.OK {
			t.Error(name)
		}
	}
}

func encode(t *testing.T, h api.Header) api.Page {
	t.Helper()
	p, e := page.Encode(h, []byte("slip"))
	if e != api.OK {
		t.Fatal(h, e)
	}
	return p
}

// strange is a page that is whole, but with a header that may not be.
func strange(t *testing.T) api.Page {
	t.Helper()
	sealed, e := seal.Seal(make([]byte, api.PageLen+api.OobLen-4))
	if e != api.OK {
		t.Fatal(e)
	}
	var p api.Page
	copy(p.Oob[:], sealed[copy(p.Data[:], sealed):])
	if e := page.State(p); e != api.ErrHeader {
		t.Fatal(e)
	}
	return p
}

// tells fails if an iterator does not tell just that, each time, however often it is left on the way.
func tells[T comparable](t *testing.T, name string, seq iter.Seq[T], want ...T) {
	t.Helper()
	for leave := range len(want) + 1 {
		var got []T
		for x := range seq {
			got = append(got, x)
			if len(got) == leave {
				break
			}
		}
		if leave > 0 && !slices.Equal(got, want[:leave]) {
			t.Errorf("%s, left at %d: %v, want %v", name, leave, got, want)
		}
		if got = slices.Collect(seq); !slices.Equal(got, want) {
			t.Errorf("%s: %v, want %v", name, got, want)
		}
	}
}

func TestP71Pages(t *testing.T) {
	h := []api.Header{log(4, 5), data(7, 3, 9), anchor(0, 8), log(api.MaxLogical-1, api.MaxSeq)}
	var whole []api.Page
	for _, x := range h {
		whole = append(whole, encode(t, x))
	}
	torn, other := page.Tear(whole[0], []byte{128}), strange(t)
	for _, block := range []int{0, 2, api.MaxBlocks - 1, api.MaxBlocks, -1, math.MinInt, math.MaxInt} {
		is := func(number, n int) api.Found { return api.Found{At: at(block, number), H: h[n]} }
		tells(t, "nil", scan.Pages(block, nil))
		tells(t, "no page", scan.Pages(block, []api.Page{}))
		tells(t, "none is taken", scan.Pages(block, []api.Page{page.Erased(), torn, other, {}}))
		tells(t, "all are", scan.Pages(block, whole), is(0, 0), is(1, 1), is(2, 2), is(3, 3))
		tells(t, "the first one", scan.Pages(block, []api.Page{whole[3], torn}), is(0, 3))
		tells(t, "the last one", scan.Pages(block, []api.Page{other, torn, page.Erased(), whole[2]}), is(3, 2))
		tells(t, "some", scan.Pages(block, []api.Page{page.Erased(), whole[1], other, whole[0], whole[1], torn}), is(1, 1), is(3, 0), is(4, 1))
	}
}

// No more pages than a block may have, and many more.
func TestP71PagesMany(t *testing.T) {
	for _, n := range []int{1, api.MinPages, api.MaxPages, api.MaxPages + 1, 100} {
		var l []api.Page
		var want []api.Found
		for i := range n {
			h := log(n-i, int64(i+1))
			l = append(l, encode(t, h))
			want = append(want, api.Found{At: at(3, i), H: h})
		}
		tells(t, "many", scan.Pages(3, l), want...)
	}
}

func TestP71Greatest(t *testing.T) {
	is := func(name string, want int64, l ...api.Found) {
		t.Helper()
		if got := scan.Greatest(l...); got != want {
			t.Errorf("%s: %d, want %d", name, got, want)
		}
	}
	of := func(h api.Header) api.Found { return api.Found{At: at(3, 1), H: h} }
	is("nothing", 0)
	is("one", 9, of(log(1, 9)))
	is("a copy's Stamp, not its Seq", 13, of(data(1, 2, 13)))
	is("the first", 9, of(log(1, 9)), of(log(2, 8)), of(log(3, 7)))
	is("the last", 9, of(log(1, 7)), of(log(2, 8)), of(log(3, 9)))
	is("in the middle", 9, of(log(1, 7)), of(data(2, 1, 9)), of(log(3, 8)))
	is("an anchor", 9, of(log(1, 7)), of(anchor(0, 9)), of(data(3, 1, 8)))
	is("the least", 1, of(log(1, 1)))
	is("the greatest", api.MaxSeq, of(log(1, 7)), of(data(1, 1, api.MaxSeq)), of(log(2, 8)))
	is("wherever it is", 9, of(log(1, 7)), api.Found{At: at(-1, -1), H: log(2, 9)}, of(log(1, 8)))
	is("wherever it is", 9, of(log(1, 7)), api.Found{At: at(math.MaxInt, math.MinInt), H: log(api.MaxLogical-1, 9)}, of(log(1, 8)))
	for _, bad := range badHeaders(1) {
		name, h := bad.name, bad.h
		is(name+" alone", 0, of(h))
		is(name+" ahead", 9, of(h), of(log(1, 9)))
		is(name+" behind", 9, of(log(1, 9)), of(h))
	}
}

var oddSizes = []int{math.MinInt, -1, 0, 1, 3, 33, 257, math.MaxInt}

func TestP72NewestSizes(t *testing.T) {
	l := []api.Found{found(3, 1, 0, 9), found(3, 2, 1, 9)}
	refused := func(pages, logical int) {
		t.Helper()
		if got := scan.Newest(pages, logical, l...); len(got) > 0 {
			t.Errorf("%d pages, %d blocks: %d places", pages, logical, len(got))
		}
	}
	for _, pages := range oddSizes {
		for _, logical := range append(oddSizes, 2, 256) {
			refused(pages, logical)
		}
	}
	for _, logical := range []int{math.MinInt, -1, 0, 257, math.MaxInt} {
		refused(4, logical)
		refused(32, logical)
	}
	for _, pages := range []int{4, 5, 31, 32} {
		for _, logical := range []int{1, 2, 255, 256} {
			want := places(pages*logical, nil)
			if got := scan.Newest(pages, logical); !slices.Equal(got, want) {
				t.Errorf("%d pages, %d blocks: %v of nothing", pages, logical, got)
			}
			want[0], want[1] = at(3, 1), at(3, 2)
			if got := scan.Newest(pages, logical, l...); !slices.Equal(got, want) {
				t.Errorf("%d pages, %d blocks: %v", pages, logical, got)
			}
		}
	}
}

// both hands l to look in both orders.
func both(l []api.Found, look func(l []api.Found)) {
	look(l)
	l = slices.Clone(l)
	slices.Reverse(l)
	look(l)
}

// newest fails if Newest of 4 pages and 3 blocks does not say just that, in both orders.
func newest(t *testing.T, name string, some map[int]api.Place, l ...api.Found) {
	t.Helper()
	both(l, func(l []api.Found) {
		t.Helper()
		if got := scan.Newest(4, 3, l...); !slices.Equal(got, places(12, some)) {
			t.Errorf("%s: %v of %v", name, got, l)
		}
	})
}

func TestP72NewestExample(t *testing.T) {
	newest(t, "the document's example", map[int]api.Place{5: at(9, 0)}, found(7, 1, 5, 3), found(9, 0, 5, 4))
	_, is := scan.Settled(4, places(12, map[int]api.Place{5: at(9, 0)}), 1)
	if is {
		t.Error("logical block 1 is settled")
	}
}

func TestP72NewestOfTwo(t *testing.T) {
	of := func(phys, number int, h api.Header) api.Found { return api.Found{At: at(phys, number), H: h} }
	here := map[int]api.Place{6: at(9, 3)}
	newest(t, "a greater Seq", here, of(9, 3, log(6, 12)), of(2, 1, log(6, 11)))
	newest(t, "a greater Seq, though the Stamp is less", here, of(9, 3, data(6, 12, 12)), of(2, 1, data(6, 11, 40)))
	newest(t, "the same Seq, a lesser Stamp", here, of(9, 3, log(6, 12)), of(2, 1, data(6, 12, 13)))
	newest(t, "the same Seq, a lesser Stamp", here, of(9, 3, data(6, 12, 13)), of(2, 1, data(6, 12, 14)), of(1, 0, data(6, 12, api.MaxSeq)))
	newest(t, "the greatest Seq", here, of(9, 3, log(6, api.MaxSeq)), of(2, 1, data(6, api.MaxSeq-1, api.MaxSeq)))
	newest(t, "the least Seq", here, of(9, 3, log(6, 1)))
	newest(t, "three", here, of(2, 1, log(6, 1)), of(9, 3, log(6, 3)), of(4, 1, log(6, 2)))
	for name, h := range map[string]api.Header{"log": log(6, 12), "data": data(6, 12, 12)} {
		newest(t, "neither, in unlike blocks", here, of(9, 3, log(6, 12)), of(10, 0, h))
		newest(t, "neither, in the same block", map[int]api.Place{6: at(9, 2)}, of(9, 3, log(6, 12)), of(9, 2, h))
		newest(t, "neither, in the same block, first and last", map[int]api.Place{6: at(9, 0)}, of(9, 3, log(6, 12)), of(9, 0, h))
		newest(t, "neither, in the first block and the last", map[int]api.Place{6: at(0, 3)}, of(0, 3, log(6, 12)), of(255, 0, h))
		newest(t, "at the same place, "+name, here, of(9, 3, log(6, 12)), of(9, 3, h))
	}
	newest(t, "neither of copies", here, of(9, 3, data(6, 12, 20)), of(10, 0, data(6, 12, 20)))
	newest(t, "other pages", map[int]api.Place{5: at(2, 1), 6: at(9, 3), 7: at(1, 1)}, of(2, 1, log(5, 90)), of(9, 3, log(6, 12)), of(1, 1, log(7, 91)))
	newest(t, "two pages at one place", map[int]api.Place{5: at(2, 1), 6: at(2, 1)}, of(2, 1, log(5, 90)), of(2, 1, log(6, 12)))
	newest(t, "the first page and the last", map[int]api.Place{0: at(2, 3), 11: at(3, 0)}, of(2, 3, log(0, 1)), of(3, 0, log(11, 1)))
}

func TestP72NewestWhatCounts(t *testing.T) {
	here := map[int]api.Place{1: at(9, 3)}
	old := found(9, 3, 1, 1)
	for _, bad := range badHeaders(1) {
		name, h := bad.name, bad.h
		newest(t, name, here, old, api.Found{At: at(2, 1), H: h})
		newest(t, name+" alone", nil, api.Found{At: at(2, 1), H: h})
	}
	newest(t, "PgAnchor", here, old, api.Found{At: at(2, 1), H: anchor(1, 9)})
	newest(t, "PgAnchor alone", nil, api.Found{At: at(2, 1), H: anchor(1, 9)})
	for _, p := range []int{-1, 12, 13, api.MaxLogical - 1, api.MaxLogical} {
		newest(t, "a page that there is not", here, old, found(2, 1, p, 9))
	}
	for _, off := range []api.Place{at(-1, 0), at(-1, 1), at(256, 1), at(2, -1), at(2, 4), at(2, 31), at(2, 32), at(-2, 0), at(math.MinInt, 0), at(math.MaxInt, 0), at(0, math.MinInt), at(0, math.MaxInt)} {
		newest(t, "a place that there is not", here, old, api.Found{At: off, H: log(1, 9)})
		newest(t, "a place that there is not, alone", nil, api.Found{At: off, H: log(1, 9)})
	}
	for _, on := range []api.Place{at(0, 0), at(255, 3), at(0, 3), at(255, 0)} {
		newest(t, "an edge of the chip", map[int]api.Place{1: on}, old, api.Found{At: on, H: log(1, 9)})
	}
	got := scan.Newest(32, 1, found(9, 31, 1, 5), found(9, 32, 1, 9), found(255, 31, 31, 5), found(3, 4, 0, 2))
	if want := places(32, map[int]api.Place{0: at(3, 4), 1: at(9, 31), 31: at(255, 31)}); !slices.Equal(got, want) {
		t.Error("32 pages a block", got)
	}
}

// best fails if Best of 4 pages a block does not say just that, in both orders.
func best(t *testing.T, name string, in, want []api.Place, l ...api.Found) {
	t.Helper()
	both(l, func(l []api.Found) {
		t.Helper()
		if got := scan.Best(4, in, l...); !slices.Equal(got, want) {
			t.Errorf("%s: %v, want %v", name, got, want)
		}
	})
}

// spread is a logical block (1, of 3) whose pages 0, 1 and 3 stand in the blocks 20 and 21, with the Seqs 5, 6 and 7.
func spread() ([]api.Place, []api.Found) {
	in := places(12, map[int]api.Place{4: at(20, 2), 5: at(20, 1), 7: at(21, 0)})
	return in, []api.Found{found(20, 2, 4, 5), found(20, 1, 5, 6), found(21, 0, 7, 7)}
}

// whole are the copies of spread's pages in a block.
func whole(phys int) []api.Found {
	return []api.Found{
		{At: at(phys, 0), H: data(4, 5, 50)},
		{At: at(phys, 1), H: data(5, 6, 51)},
		{At: at(phys, 3), H: data(7, 7, 52)},
	}
}

func TestP72BestGathers(t *testing.T) {
	in, l := spread()
	at9 := places(12, map[int]api.Place{4: at(9, 0), 5: at(9, 1), 7: at(9, 3)})
	best(t, "no block has all", in, in, l...)
	best(t, "one block has all", in, at9, append(l, whole(9)...)...)
	best(t, "two have", in, at9, slices.Concat(l, whole(9), whole(10))...)
	best(t, "three have", in, at9, slices.Concat(whole(200), whole(9), l, whole(10))...)
	at0 := places(12, map[int]api.Place{4: at(0, 0), 5: at(0, 1), 7: at(0, 3)})
	best(t, "the first and the last block have", in, at0, slices.Concat(l, whole(0), whole(255))...)
	best(t, "the last block has", in, places(12, map[int]api.Place{4: at(255, 0), 5: at(255, 1), 7: at(255, 3)}), append(l, whole(255)...)...)
	best(t, "twice", in, at9, slices.Concat(l, whole(9), l, whole(9))...)
	best(t, "it stands so already", at9, at9, whole(9)...)
	best(t, "it stands so already, and in a lesser one", at9, at0, append(whole(9), whole(0)...)...)
	best(t, "it stands so already, and in a greater one", at9, at9, append(whole(9), whole(10)...)...)
	// What a lesser block lacks counts against it, not against the next one.
	best(t, "a lesser block has some", in, at9, slices.Concat(l, whole(9), whole(2)[:2], whole(3)[1:])...)
	best(t, "two lesser blocks have it between them", in, in, slices.Concat(l, whole(2)[:2], whole(3)[2:])...)
}

func TestP72BestNoPlace(t *testing.T) {
	_, l := spread()
	none := places(12, nil)
	best(t, "no page has a place", none, none, append(l, whole(9)...)...)
	best(t, "nothing was found", none, none)
	in, _ := spread()
	best(t, "nothing was found, but there are places", in, in)
	// A page that has no place gets none, though a copy is there.
	in[5] = nowhere
	want := places(12, map[int]api.Place{4: at(9, 0), 7: at(9, 3)})
	best(t, "a page has no place", in, want, append(l, whole(9)...)...)
	best(t, "one page has a place", places(12, map[int]api.Place{7: at(21, 0)}), places(12, map[int]api.Place{7: at(9, 3)}), append(l, whole(9)...)...)
	// Phys -1 is no place, whatever stands beside it.
	in[5], want[5] = at(-1, 2), at(-1, 2)
	best(t, "a page has no place", in, want, append(l, whole(9)...)...)
}

func TestP72BestSeqs(t *testing.T) {
	in, l := spread()
	at9 := places(12, map[int]api.Place{4: at(9, 0), 5: at(9, 1), 7: at(9, 3)})
	for i := range 3 {
		for _, seq := range []int64{1, 4, 8, 90} {
			other := whole(9)
			other[i].H.Seq = seq
			other[i].H.Stamp = 90
			best(t, "another Seq of one page", in, in, append(l, other...)...)
			best(t, "another Seq of one page, and a block behind", in, places(12, map[int]api.Place{4: at(10, 0), 5: at(10, 1), 7: at(10, 3)}), slices.Concat(l, other, whole(10))...)
			twice := slices.Concat(l, whole(9), other[i:i+1])
			if seq > l[i].H.Seq {
				best(t, "a greater Seq there, too", in, in, twice...)
			} else {
				best(t, "a lesser Seq there, too", in, at9, twice...)
			}
			there := append(slices.Concat(l, whole(9)), found(l[i].At.Phys, l[i].At.Page, l[i].H.Page, seq))
			if seq > l[i].H.Seq {
				best(t, "a greater Seq at its place, too", in, in, there...)
				best(t, "the same greater Seq at both", in, at9, append(there, other[i])...)
			} else {
				best(t, "a lesser Seq at its place, too", in, at9, there...)
			}
		}
	}
	for i := range l {
		for j := range l {
			if i != j {
				// Of another page at that place nothing follows for this one.
				best(t, "another page at its place", in, at9, append(slices.Concat(l, whole(9)), found(l[i].At.Phys, l[i].At.Page, l[j].H.Page, 90))...)
			}
		}
		lacking := slices.Delete(slices.Clone(l), i, i+1)
		best(t, "nothing at its place", in, in, append(lacking, whole(9)...)...)
	}
}

func TestP72BestWhatCounts(t *testing.T) {
	in, l := spread()
	at9 := places(12, map[int]api.Place{4: at(9, 0), 5: at(9, 1), 7: at(9, 3)})
	for i := range 3 {
		spoil := func(name string, change func(f *api.Found)) {
			t.Helper()
			there, here := whole(9), slices.Clone(l)
			change(&there[i])
			change(&here[i])
			best(t, name+", in the block", in, in, append(l, there...)...)
			best(t, name+", at its place", in, in, append(here, whole(9)...)...)
			best(t, name+", beside what counts", in, at9, slices.Concat(l, there, here, whole(9))...)
		}
		spoil("PgAnchor", func(f *api.Found) { f.H.Kind, f.H.Stamp = api.PgAnchor, f.H.Seq })
		spoil("a Stamp that may not be", func(f *api.Found) { f.H.Stamp = f.H.Seq - 1 })
		spoil("a Kind that may not be", func(f *api.Found) { f.H.Kind = 4 })
		spoil("no Seq", func(f *api.Found) { f.H = data(f.H.Page, 0, 5) })
		spoil("another block", func(f *api.Found) { f.At.Phys += 100 })
		spoil("no block", func(f *api.Found) { f.At.Phys -= 256 })
		spoil("no block", func(f *api.Found) { f.At.Phys += 256 })
		spoil("no page of a block", func(f *api.Found) { f.At.Page += 4 })
		spoil("no page of a block", func(f *api.Found) { f.At.Page -= 4 })
		spoil("another page", func(f *api.Found) { f.H.Page += 4 })
		spoil("another page", func(f *api.Found) { f.H.Page -= 4 })
		spoil("a page that there is not", func(f *api.Found) { f.H.Page += 8 })
		spoil("a page that there is not", func(f *api.Found) { f.H.Page -= 8 })
	}
	other := whole(9)
	other[0].At.Page, other[1].At.Page = 1, 0
	best(t, "at other numbers", in, in, append(l, other...)...)
	other = whole(9)
	other[2].At.Page = 2
	best(t, "at another number", in, in, append(l, other...)...)
	// Nothing that counts stands where there is no place, so that the block keeps its places.
	for _, off := range []api.Place{at(256, 0), at(-2, 0), at(20, 4), at(20, 32), at(20, -1), at(math.MaxInt, math.MinInt)} {
		odd := slices.Clone(in)
		odd[5] = off
		best(t, "a place that there is not", odd, odd, slices.Concat(l, whole(9), []api.Found{{At: off, H: log(5, 6)}})...)
	}
}

func TestP72BestBlocks(t *testing.T) {
	// Each logical block for itself: 0 is moved, 1 is not, 2 is moved, and what is left behind is not.
	in := []api.Place{at(1, 3), nowhere, at(1, 2), nowhere, at(2, 0), at(3, 1), nowhere, nowhere, nowhere, nowhere, nowhere, at(4, 0), at(5, 1), at(6, 1), nowhere}
	l := []api.Found{
		found(1, 3, 0, 5), found(1, 2, 2, 6), found(30, 0, 0, 5), found(30, 2, 2, 6),
		found(2, 0, 4, 7), found(3, 1, 5, 8),
		found(4, 0, 11, 9), found(31, 3, 11, 9),
		found(5, 1, 12, 10), found(6, 1, 13, 11), found(32, 0, 12, 10), found(32, 1, 13, 11),
	}
	want := slices.Clone(in)
	want[0], want[2], want[11] = at(30, 0), at(30, 2), at(31, 3)
	best(t, "pages left behind", in, want, l...)
	for n := range in {
		cut := slices.Clone(want[:n])
		for i := n / 4 * 4; i < n; i++ {
			cut[i] = in[i]
		}
		best(t, "fewer pages", in[:n], cut, l...)
	}
	// Now the last logical block is whole.
	in, want = append(in, nowhere), append(want, nowhere)
	want[12], want[13] = at(32, 0), at(32, 1)
	best(t, "none is left", in, want, l...)
}

// scattered is two logical blocks of which all pages stand anywhere, but copies of each one's in a block; and the places of these.
func scattered(pages int) (in, want []api.Place, l []api.Found) {
	for p := range 2 * pages {
		number, seq := p%pages, int64(p+1)
		in, want = append(in, at(20+number, p%3)), append(want, at(5+p/pages, number))
		l = append(l, found(20+number, p%3, p, seq), found(5+p/pages, number, p, seq))
	}
	return in, want, l
}

func TestP72BestPages(t *testing.T) {
	for _, pages := range []int{1, 2, 3, 33, 34} {
		in, _, l := scattered(pages)
		if got := scan.Best(pages, in, l...); !slices.Equal(got, in) {
			t.Errorf("%d pages: %v", pages, got)
		}
	}
	for _, pages := range oddSizes {
		in, _, l := scattered(4)
		if got := scan.Best(pages, in, l...); !slices.Equal(got, in) {
			t.Errorf("%d pages: %v", pages, got)
		}
	}
	for _, pages := range []int{4, 5, 31, 32} {
		in, want, l := scattered(pages)
		if got := scan.Best(pages, in, l...); !slices.Equal(got, want) {
			t.Errorf("%d pages: %v", pages, got)
		}
		want = append(want[:pages], in[pages:2*pages-1]...)
		if got := scan.Best(pages, in[:2*pages-1], l...); !slices.Equal(got, want) {
			t.Errorf("%d pages, one less: %v", pages, got)
		}
	}
}

func TestP73Needed(t *testing.T) {
	tells(t, "nil", scan.Needed(nil))
	tells(t, "empty", scan.Needed([]api.Place{}))
	tells(t, "nowhere", scan.Needed(places(12, nil)))
	tells(t, "one", scan.Needed([]api.Place{at(7, 0)}), 7)
	tells(t, "rising", scan.Needed([]api.Place{at(9, 0), nowhere, at(3, 1), at(200, 2), at(10, 3)}), 3, 9, 10, 200)
	tells(t, "twice", scan.Needed([]api.Place{at(9, 0), at(3, 1), at(9, 0), at(9, 1), at(3, 0)}), 3, 9)
	tells(t, "edges", scan.Needed([]api.Place{at(255, 31), at(0, 0), at(1, 31), at(254, 0)}), 0, 1, 254, 255)
	tells(t, "what counts as none", scan.Needed(offChip()))
	tells(t, "beside others", scan.Needed(append(offChip(), at(8, 31), at(4, 0))), 4, 8)
}

// offChip are places that count as none.
func offChip() []api.Place {
	return []api.Place{
		nowhere, at(-1, 5), at(256, 0), at(2, -1), at(2, 32), at(-2, 0), at(257, 31),
		at(math.MinInt, 0), at(math.MaxInt, 0), at(0, math.MinInt), at(0, math.MaxInt), at(math.MaxInt, math.MaxInt),
	}
}

func settled(t *testing.T, name string, pages int, in []api.Place, block, want int) {
	t.Helper()
	got, is := scan.Settled(pages, in, block)
	if is != (want >= 0) || got != max(want, 0) {
		t.Errorf("%s: %d, %v, want %d", name, got, is, want)
	}
}

// home is three logical blocks of four pages: 0 in block 7, 1 in block 0, 2 nowhere.
func home() []api.Place {
	return places(12, map[int]api.Place{0: at(7, 0), 1: at(7, 1), 2: at(7, 2), 3: at(7, 3), 5: at(0, 1)})
}

func TestP73Settled(t *testing.T) {
	settled(t, "all pages", 4, home(), 0, 7)
	settled(t, "one page, in block 0", 4, home(), 1, 0)
	settled(t, "no place at all", 4, home(), 2, -1)
	for _, block := range []int{-1, 3, 4, math.MinInt, math.MaxInt} {
		settled(t, "no such block", 4, home(), block, -1)
	}
	for _, pages := range oddSizes {
		settled(t, "pages that may not be", pages, home(), 0, -1)
	}
	// 3 and 33 pages a block would fit as well.
	settled(t, "3 pages", 3, places(3, map[int]api.Place{0: at(7, 0)}), 0, -1)
	settled(t, "33 pages", 33, places(33, map[int]api.Place{0: at(7, 0)}), 0, -1)
	for n := range 13 {
		want := -1
		if n > 0 && n%4 == 0 {
			want = 7
		}
		settled(t, "another length", 4, home()[:n], 0, want)
	}
	settled(t, "one too long", 4, append(home(), nowhere), 0, -1)
	settled(t, "nil", 4, nil, 0, -1)
	for _, pages := range []int{4, 5, 31, 32} {
		in := places(256*pages, nil)
		for p := range in {
			in[p] = at(255-p/pages, p%pages)
		}
		for _, block := range []int{0, 1, 255} {
			settled(t, "256 blocks", pages, in, block, 255-block)
		}
		settled(t, "256 blocks", pages, in, 256, -1)
		settled(t, "one too short", pages, in[:256*pages-1], 0, -1)
	}
	// No bound is told for how many logical blocks there may be.
	many := places(4*1000, map[int]api.Place{3999: at(5, 3)})
	settled(t, "many blocks", 4, many, 999, 5)
	settled(t, "many blocks", 4, many, 998, -1)
}

func TestP73NotSettled(t *testing.T) {
	change := func(name string, p int, place api.Place, want0, want1 int) {
		t.Helper()
		in := home()
		in[p] = place
		settled(t, name+", block 0", 4, in, 0, want0)
		settled(t, name+", block 1", 4, in, 1, want1)
	}
	for p := range 4 {
		change("a page less", p, nowhere, 7, 0)
		change("a page in another block", p, at(8, p), -1, 0)
		change("a page at the next number", p, at(7, p+1), -1, 0)
		change("a page at the number ahead", p, at(7, (p+3)%4), -1, 0)
		change("a page at a number that a block of four has not", p, at(7, 31), -1, 0)
		change("a page in the other's block", p, at(0, p), -1, -1)
		for _, place := range offChip() {
			change("what counts as none", p, place, 7, 0)
		}
		for _, q := range []int{8, 9, 10, 11} {
			change("a page of another logical block", q, at(7, p), -1, 0)
			change("a page of another logical block", q, at(0, p), 7, -1)
		}
	}
	change("another logical block, at a number that a block of four has not", 8, at(7, 31), -1, 0)
	change("another logical block, nowhere", 8, at(7, 32), 7, 0)
	change("another logical block, nowhere", 8, at(7, -1), 7, 0)
	change("another logical block, elsewhere", 8, at(9, 0), 7, 0)
	in := places(8, map[int]api.Place{0: at(7, 1)})
	settled(t, "the only page, at another number", 4, in, 0, -1)
	settled(t, "nothing but what counts as none", 4, offChip(), 0, -1)
	in = home()
	in[5], in[6] = at(7, 1), at(7, 2)
	settled(t, "two in one block", 4, in, 0, -1)
	settled(t, "two in one block", 4, in, 1, -1)
}

func isZero(x api.Table) bool {
	return x.Pages == 0 && x.Logical == 0 && x.K == 0 && x.Seq == api.SeqLog{} && x.Data == nil && x.Have == nil && x.Logs == nil
}

func TestP73TableErrors(t *testing.T) {
	refused := func(name string, pages, logical, k int, in []api.Place) {
		t.Helper()
		x, loose, e := scan.Table(pages, logical, k, in)
		if e != api.ErrArg || !isZero(x) || loose != nil {
			t.Errorf("%s: %v, %v, %v", name, x, loose, e)
		}
	}
	for _, n := range oddSizes {
		refused("pages", n, 3, 2, home())
		refused("pages, and newest too short", n, 3, 2, home()[:11])
		refused("all", n, n, n, nil)
		for _, m := range oddSizes {
			refused("pages and logical", n, m, 2, home())
		}
	}
	for _, n := range []int{math.MinInt, -1, 0, 257, math.MaxInt} {
		refused("logical", 4, n, 2, home())
	}
	for _, n := range []int{math.MinInt, -1, 0, 9, math.MaxInt} {
		refused("k", 4, 3, n, home())
		refused("k, and newest too long", 4, 3, n, append(home(), nowhere))
	}
	refused("one too short", 4, 3, 2, home()[:11])
	refused("one too long", 4, 3, 2, append(home(), nowhere))
	refused("a block too short", 4, 3, 2, home()[:8])
	refused("a block too long", 4, 3, 2, append(home(), nowhere, nowhere, nowhere, nowhere))
	refused("nil", 4, 3, 2, nil)
	refused("empty", 4, 1, 1, []api.Place{})
	// As many places, but not so many pages a block.
	refused("other pages", 5, 2, 2, places(8, nil))
}

// table fails if Table does not say just that.
func table(t *testing.T, name string, in []api.Place, want api.Table, loose ...int) {
	t.Helper()
	x, l, e := scan.Table(want.Pages, want.Logical, want.K, in)
	if e != api.OK || !equal(x, want) || !slices.Equal(l, loose) {
		t.Errorf("%s: %v, %v, %v, want %v, %v", name, x, l, e, want, loose)
	}
	if plan.Check(x) != api.OK {
		t.Errorf("%s: %v may not be", name, x)
	}
}

func equal(a, b api.Table) bool {
	return a.Pages == b.Pages && a.Logical == b.Logical && a.K == b.K && a.Seq == b.Seq &&
		slices.Equal(a.Data, b.Data) && slices.Equal(a.Have, b.Have) && len(a.Logs) == 0 && len(b.Logs) == 0
}

// empty is a table without anything, made without the program's help.
func empty(pages, logical, k int) api.Table {
	return api.Table{Pages: pages, Logical: logical, K: k, Data: slices.Repeat([]int{-1}, logical), Have: make([]bool, pages*logical), Seq: api.SeqLog{Phys: -1}}
}

func with(x api.Table, block, phys int, numbers ...int) api.Table {
	x.Data[block] = phys
	for _, n := range numbers {
		x.Have[block*x.Pages+n] = true
	}
	return x
}

func TestP73Table(t *testing.T) {
	for _, k := range []int{1, 2, 8} {
		table(t, "nothing", places(12, nil), empty(4, 3, k))
		table(t, "settled and empty", home(), with(with(empty(4, 3, k), 0, 7, 0, 1, 2, 3), 1, 0, 1))
		table(t, "what counts as none", offChip(), empty(4, 3, k))
	}
	// 0 is settled, 1 stands in two blocks, 2 has nothing, 3 has another's page with it, 4 is that other, 5 is settled.
	mixed := places(24, map[int]api.Place{
		1: at(7, 1), 3: at(7, 3), 4: at(8, 0), 5: at(9, 1), 12: at(10, 0), 13: at(10, 1), 18: at(10, 2), 20: at(255, 0),
	})
	want := with(with(empty(4, 6, 2), 0, 7, 1, 3), 5, 255, 0)
	table(t, "beside each other", mixed, want, 1, 3, 4)
	mixed[21], mixed[14], mixed[5] = at(3, 32), at(256, 2), nowhere
	table(t, "and what counts as none", mixed, with(want, 1, 8, 0), 3, 4)
	table(t, "all are loose", places(8, map[int]api.Place{0: at(1, 1), 4: at(2, 1)}), empty(4, 2, 1), 0, 1)
	table(t, "the least", places(4, map[int]api.Place{2: at(0, 2)}), with(empty(4, 1, 1), 0, 0, 2))
	in := places(256*32, nil)
	great := empty(32, 256, 8)
	for p := range in {
		in[p] = at(255-p/32, p%32)
		with(great, p/32, 255-p/32, p%32)
	}
	table(t, "the greatest", in, great)
}

package inode_test

import (
	"fmt"
	"math"
	"slices"
	"testing"

	"slipway/api"
	"slipway/inode"
)

// is ends the test at the first thing that is wrong: of thousands of inodes nobody would read all.
func is[T comparable](t *testing.T, name string, got, want T) {
	t.Helper()
	if got != want {
		t.Fatalf("%s: %#v, want %#v", name, got, want)
	}
}

func named(x api.Inode) string { return fmt.Sprintf("%+v", x) }

func right(ok bool) api.Errno {
	if ok {
		return api.OK
	}
	return 140
}

// extents are n of a file's extents that do not join.
func extents(n int) []api.Extent {
	return slices.Clone([]api.Extent{{Logical: 0, Len: 2, Phys: 40}, {Logical: 3, Len: 1, Phys: 99}, {Logical: 4, Len: 4096, Phys: 4096}, {Logical: 65535, Len: 1, Phys: 8191}, {Logical: 5000, Len: 1, Phys: 1}}[:n])
}

// entries are n entries of a tree.
func entries(n int) []api.Extent {
	return slices.Clone([]api.Extent{{Logical: 0, Phys: 50}, {Logical: 27, Phys: 1}, {Logical: 28, Phys: 8191}, {Logical: 65535, Phys: 51}, {Logical: 70, Phys: 7}}[:n])
}

func file() api.Inode {
	return api.Inode{Kind: 1, Links: 2, Size: 1000, Next: 9, Gen: 7, Root: extents(2)}
}

func dir() api.Inode {
	return api.Inode{Kind: 2, Links: 3, Size: 512, Next: 1, Gen: 5, Depth: 1, Root: entries(2)}
}

// The numbers of an inode, by their places in the struct.
const (
	kind = iota
	links
	size
	next
	gen
	depth
	numbers
)

// with is an inode of which one number is this.
func with(x api.Inode, which int, n int64) api.Inode {
	switch which {
	case kind:
		x.Kind = int(n)
	case links:
		x.Links = int(n)
	case size:
		x.Size = n
	case next:
		x.Next = int(n)
	case gen:
		x.Gen = n
	case depth:
		x.Depth = int(n)
	}
	return x
}

func withRoot(x api.Inode, depth int, root ...api.Extent) api.Inode {
	x.Depth, x.Root = depth, root
	return x
}

// good are inodes that may be.
func good() []api.Inode {
	l := []api.Inode{
		{}, {Gen: 1}, {Gen: 1<<32 - 1}, {Root: []api.Extent{}},
		{Kind: 1}, {Kind: 2}, file(), dir(),
		{Kind: 1, Links: 1, Size: 5, Root: []api.Extent{{Len: 1, Phys: 30}}},
		{Kind: 1, Links: 1000, Size: 1 << 24, Next: 1 << 16, Gen: 1<<32 - 1, Depth: 2, Root: entries(4)},
		{Kind: 2, Links: 1000, Size: 1 << 24, Next: 1 << 16, Gen: 1<<32 - 1, Root: extents(4)},
	}
	for n := range 5 {
		for _, x := range []api.Inode{file(), dir()} {
			l = append(l, withRoot(x, 0, extents(n)...))
			if n > 0 {
				l = append(l, withRoot(x, 1, entries(n)...), withRoot(x, 2, entries(n)...))
			}
		}
	}
	return l
}

// wrong are inodes that may not be, each for one reason alone where that can be.
func wrong() []api.Inode {
	l := []api.Inode{
		withRoot(file(), 0, extents(5)...), withRoot(file(), 1, entries(5)...), withRoot(file(), 1), withRoot(file(), 2),
		withRoot(file(), 0, entries(1)...), withRoot(file(), 1, extents(1)...),
		withRoot(api.Inode{}, 0, extents(1)...), withRoot(api.Inode{Gen: 4}, 0, extents(4)...), withRoot(api.Inode{}, 1, entries(1)...),
		with(dir(), size, 255), with(dir(), size, 257), with(dir(), size, 1<<24-1),
	}
	for which, values := range [numbers][]int64{
		kind:  {-1, 3, 4, 255, 256, 257, 1 << 32, 1<<32 + 1, math.MinInt64, math.MaxInt64},
		links: {-1, 1001, 1 << 32, math.MinInt64, math.MaxInt64},
		size:  {-1, -256, 1<<24 + 1, 1<<24 + 256, 1 << 32, math.MinInt64, math.MaxInt64},
		next:  {-1, 1<<16 + 1, 1 << 32, math.MinInt64, math.MaxInt64},
		gen:   {-1, 1 << 32, 1<<32 + 7, math.MinInt64, math.MaxInt64},
		depth: {-1, 3, 256, 1 << 32, math.MinInt64, math.MaxInt64},
	} {
		for _, n := range values {
			l = append(l, with(file(), which, n), with(dir(), which, n), with(api.Inode{}, which, n))
		}
	}
	for _, which := range []int{links, size, next, depth} {
		l = append(l, with(api.Inode{}, which, 1), with(api.Inode{Gen: 9}, which, 1), with(api.Inode{Root: []api.Extent{}}, which, 256))
	}
	return l
}

func TestP141CheckOfGoodAndWrong(t *testing.T) {
	for _, x := range good() {
		is(t, "Check of "+named(x), inode.Check(x), api.OK)
	}
	for _, x := range wrong() {
		is(t, "Check of "+named(x), inode.Check(x), api.Errno(140))
	}
}

// Each number at its edges, of each kind that may have it.
func TestP141CheckOfNumbers(t *testing.T) {
	type edge struct {
		n  int64
		ok bool
	}
	ends := []edge{{math.MinInt64, false}, {math.MinInt64 + 1, false}, {math.MinInt32, false}, {-1, false}, {0, true}, {1 << 32, false}, {math.MaxInt64 - 1, false}, {math.MaxInt64, false}}
	for which, edges := range [numbers][]edge{
		links: {{1, true}, {999, true}, {1000, true}, {1001, false}},
		size:  {{256, true}, {1<<24 - 256, true}, {1 << 24, true}, {1<<24 + 1, false}, {1<<24 + 256, false}},
		next:  {{1, true}, {1<<16 - 1, true}, {1 << 16, true}, {1<<16 + 1, false}},
		gen:   {{1, true}, {1<<32 - 2, true}, {1<<32 - 1, true}, {1<<32 + 1, false}},
		depth: {{1, true}, {2, true}, {3, false}, {255, false}},
	} {
		if which == kind {
			continue
		}
		for _, x := range append(ends, edges...) {
			for _, of := range []api.Inode{file(), dir()} {
				if which == depth && x.n == 0 {
					of.Root = extents(2)
				} else if which == depth {
					of.Root = entries(2)
				}
				of = with(of, which, x.n)
				is(t, "Check of "+named(of), inode.Check(of), right(x.ok))
			}
			free := with(api.Inode{}, which, x.n)
			is(t, "Check of "+named(free), inode.Check(free), right(x.ok && (which == gen || x.n == 0)))
		}
	}
}

func TestP141CheckOfKinds(t *testing.T) {
	for _, n := range []int{math.MinInt, -256, -255, -1, 0, 1, 2, 3, 4, 254, 255, 256, 257, 258, 1 << 32, 1<<32 + 1, math.MaxInt} {
		is(t, "Check of a Kind", inode.Check(api.Inode{Kind: n}), right(n >= 0 && n <= 2))
		is(t, "Check of a Kind", inode.Check(api.Inode{Kind: n, Links: 1, Size: 256, Root: extents(1)}), right(n == 1 || n == 2))
	}
}

func TestP141CheckOfFree(t *testing.T) {
	for _, g := range []int64{0, 1, 1<<32 - 1} {
		is(t, "nil", inode.Check(api.Inode{Gen: g}), api.OK)
		is(t, "empty", inode.Check(api.Inode{Gen: g, Root: []api.Extent{}}), api.OK)
		for _, which := range []int{links, size, next, depth} {
			for _, n := range []int64{1, 2, 256} {
				x := with(api.Inode{Gen: g}, which, n)
				is(t, "Check of "+named(x), inode.Check(x), api.ErrInode)
			}
		}
		for n := 1; n < 6; n++ {
			for d := range 3 {
				is(t, "extents", inode.Check(withRoot(api.Inode{Gen: g}, d, extents(n)...)), api.ErrInode)
				is(t, "entries", inode.Check(withRoot(api.Inode{Gen: g}, d, entries(n)...)), api.ErrInode)
			}
		}
		is(t, "a zero entry", inode.Check(withRoot(api.Inode{Gen: g}, 0, api.Extent{})), api.ErrInode)
	}
}

func TestP141CheckOfSizes(t *testing.T) {
	for n := range int64(2000) {
		is(t, "a file", inode.Check(with(file(), size, n)), api.OK)
		is(t, "a directory", inode.Check(with(dir(), size, n)), right(n%256 == 0))
	}
	for _, n := range []int64{255, 256, 257, 1<<24 - 257, 1<<24 - 256, 1<<24 - 255, 1<<24 - 1, 1 << 24} {
		is(t, "a file", inode.Check(with(file(), size, n)), api.OK)
		is(t, "a directory", inode.Check(with(dir(), size, n)), right(n%256 == 0))
	}
}

// With Depth 0 Root is what package extent takes, up to four.
func TestP141CheckOfExtents(t *testing.T) {
	for _, of := range []api.Inode{file(), dir()} {
		is(t, "nil", inode.Check(withRoot(of, 0)), api.OK)
		is(t, "empty", inode.Check(withRoot(of, 0, []api.Extent{}...)), api.OK)
		for n := range 6 {
			l := extents(n)
			if n == 5 {
				l[4].Logical, l[3].Logical = 65535, 65000
			}
			is(t, "as many as may be", inode.Check(withRoot(of, 0, l...)), right(n <= 4))
		}
		for _, l := range [][]api.Extent{
			{{}}, {{Len: 1}}, {{Phys: 1}}, {{Logical: -1, Len: 1, Phys: 1}}, {{Logical: 65536, Len: 1, Phys: 1}},
			{{Len: -1, Phys: 1}}, {{Len: 4097, Phys: 1}}, {{Len: 1, Phys: -1}}, {{Len: 1, Phys: 8192}},
			{{Logical: 65535, Len: 2, Phys: 1}}, {{Len: 2, Phys: 8191}},
			{{Len: 2, Phys: 10}, {Logical: 2, Len: 1, Phys: 12}}, {{Len: 2, Phys: 10}, {Logical: 1, Len: 1, Phys: 20}},
			{{Len: 2, Phys: 10}, {Len: 2, Phys: 20}}, {{Logical: 5, Len: 1, Phys: 10}, {Len: 1, Phys: 20}},
			{{Len: 1, Phys: 10}, {Logical: 2, Len: 1, Phys: 20}, {Logical: 4, Len: 1, Phys: 30}, {Logical: 6, Len: 1}},
			{{Len: math.MaxInt, Phys: math.MaxInt, Logical: math.MaxInt}}, {{Len: math.MinInt, Phys: math.MinInt, Logical: math.MinInt}},
		} {
			is(t, fmt.Sprint("Check of ", l), inode.Check(withRoot(of, 0, l...)), api.ErrInode)
		}
		is(t, "the disk's block twice", inode.Check(withRoot(of, 0, api.Extent{Len: 1, Phys: 9}, api.Extent{Logical: 1, Len: 1, Phys: 9})), api.OK)
	}
}

// With another Depth Root is entries: each of them is asked, wherever it stands.
func TestP141CheckOfEntries(t *testing.T) {
	for _, of := range []api.Inode{file(), dir()} {
		for d := 1; d <= 2; d++ {
			is(t, "nil", inode.Check(withRoot(of, d)), api.ErrInode)
			is(t, "empty", inode.Check(withRoot(of, d, []api.Extent{}...)), api.ErrInode)
			for n := 1; n <= 4; n++ {
				is(t, "as many as may be", inode.Check(withRoot(of, d, entries(n)...)), api.OK)
				for place := range n {
					checkEntry(t, of, d, n, place)
				}
			}
			l := entries(5)
			l[4].Logical, l[3].Logical = 65535, 65000
			is(t, "one more", inode.Check(withRoot(of, d, l...)), api.ErrInode)
		}
	}
}

// checkEntry turns each number of one of n entries that have room between each other.
func checkEntry(t *testing.T, of api.Inode, depth, n, place int) {
	t.Helper()
	try := func(name string, change func(*api.Extent), ok bool) {
		t.Helper()
		l := []api.Extent{{Logical: 10, Phys: 50}, {Logical: 20, Phys: 40}, {Logical: 30, Phys: 60}, {Logical: 40, Phys: 50}}[:n]
		change(&l[place])
		is(t, fmt.Sprint(name, " of ", l), inode.Check(withRoot(of, depth, l...)), right(ok))
	}
	for _, x := range []int{math.MinInt, -1, 0, 9, 10, 11, 19, 20, 21, 30, 31, 39, 40, 41, 65534, 65535, 65536, 1 << 24, 1 << 32, math.MaxInt} {
		ok := x >= 0 && x <= 65535 && (place == 0 || x > 10*place) && (place == n-1 || x < 10*place+20)
		try("Logical", func(e *api.Extent) { e.Logical = x }, ok)
	}
	for _, x := range []int{math.MinInt, -1, 0, 1, 2, 4096, 65536, math.MaxInt} {
		try("Len", func(e *api.Extent) { e.Len = x }, x == 0)
	}
	for _, x := range []int{math.MinInt, -1, 0, 1, 2, 40, 8190, 8191, 8192, 1 << 32, math.MaxInt} {
		try("Phys", func(e *api.Extent) { e.Phys = x }, x >= 1 && x <= 8191)
	}
}

// mayBe is P14.1's words, without the program's help; of what extents may be it tells where they are short.
func mayBe(x api.Inode) bool {
	if x.Kind < 0 || x.Kind > 2 || x.Links < 0 || x.Links > 1000 || x.Size < 0 || x.Size > 1<<24 || x.Next < 0 || x.Next > 65536 ||
		x.Gen < 0 || x.Gen >= 1<<32 || x.Depth < 0 || x.Depth > 2 || len(x.Root) > 4 {
		return false
	}
	if x.Kind == 0 && (x.Links != 0 || x.Size != 0 || x.Next != 0 || x.Depth != 0 || len(x.Root) != 0) {
		return false
	}
	if x.Kind == 2 && x.Size&255 != 0 || x.Depth > 0 && len(x.Root) == 0 {
		return false
	}
	behind, disk := 0, -1
	for i, e := range x.Root {
		if e.Logical < behind || e.Logical > 65535 || e.Phys < 1 || e.Phys > 8191 {
			return false
		}
		if x.Depth > 0 {
			if e.Len != 0 {
				return false
			}
			behind = e.Logical + 1
			continue
		}
		if e.Len < 1 || e.Len > 4096 || e.Logical+e.Len > 65536 || e.Phys+e.Len > 8192 {
			return false
		}
		if i > 0 && e.Logical == behind && e.Phys == disk && x.Root[i-1].Len+e.Len <= 4096 {
			return false
		}
		behind, disk = e.Logical+e.Len, e.Phys+e.Len
	}
	return true
}

// Of all that a few values of each field make together.
func TestP141CheckOfAllTogether(t *testing.T) {
	roots := [][]api.Extent{nil, {}, extents(1), extents(4), extents(5), entries(1), entries(4), entries(5), {{}}, {{Logical: 3, Phys: 1}, {Logical: 3, Phys: 2}}, {{Logical: 3, Phys: 1}, {Logical: 2, Phys: 2}}}
	taken := 0
	for k := -1; k <= 3; k++ {
		for _, n := range []int{-1, 0, 1000, 1001} {
			for _, s := range []int64{-256, 0, 1, 256, 1 << 24, 1<<24 + 256} {
				for _, orphan := range []int{-1, 0, 65536, 65537} {
					for _, g := range []int64{-1, 0, 1<<32 - 1, 1 << 32} {
						for d := -1; d <= 3; d++ {
							for _, root := range roots {
								x := api.Inode{Kind: k, Links: n, Size: s, Next: orphan, Gen: g, Depth: d, Root: root}
								if inode.Check(x) != right(mayBe(x)) {
									t.Fatalf("Check of %+v: %v", x, inode.Check(x))
								}
								if mayBe(x) {
									taken++
								}
							}
						}
					}
				}
			}
		}
	}
	// Four free ones; of eight in each number but Size and Root four files' sizes, three directories'; with Depth 0 four Roots, with 1 and 2 two each.
	is(t, "how many may be", taken, 4+8*7*8)
}

func TestP141Free(t *testing.T) {
	for g, want := range map[int64]int64{0: 0, 1: 1, 9: 9, 1<<31 - 1: 1<<31 - 1, 1 << 31: 1 << 31, 1<<32 - 1: 1<<32 - 1, 1 << 32: 0, 1<<32 + 1: 0, -1: 0, -9: 0, math.MinInt64: 0, math.MaxInt64: 0} {
		x := inode.Free(g)
		is(t, "Check of Free", inode.Check(x), api.OK)
		is(t, "Free", named(x), named(api.Inode{Gen: want}))
	}
}

func TestP141Blocks(t *testing.T) {
	for n, want := range map[int64]int{
		math.MinInt64: 0, math.MinInt64 + 1: 0, -257: 0, -256: 0, -255: 0, -1: 0, 0: 0, 1: 1, 2: 1, 255: 1, 256: 1, 257: 2, 511: 2, 512: 2, 513: 3,
		1<<24 - 256: 65535, 1<<24 - 255: 65536, 1<<24 - 1: 65536, 1 << 24: 65536, 1<<24 + 1: 65537,
		math.MaxInt64: 1 << 55, math.MaxInt64 - 254: 1 << 55, math.MaxInt64 - 255: 1<<55 - 1,
	} {
		is(t, fmt.Sprint("Blocks of ", n), inode.Blocks(n), want)
	}
	for n := range 3000 {
		want := 0
		for at := 0; at < n; at += 256 {
			want++
		}
		is(t, fmt.Sprint("Blocks of ", n), inode.Blocks(int64(n)), want)
	}
}

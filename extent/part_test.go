package extent_test

import (
	"math"
	"slices"
	"strconv"
	"testing"

	"slipway/api"
	"slipway/extent"
)

func runs(l []api.Extent, from, to int) string {
	return text(slices.Collect(extent.Runs(l, from, to)))
}

// holes are what Holes tells, as a text.
func holes(l []api.Extent, from, to int) string {
	said := ""
	for first, many := range extent.Holes(l, from, to) {
		said += strconv.Itoa(first) + "+" + strconv.Itoa(many) + " "
	}
	return said
}

type span struct {
	from, to    int
	runs, holes string
}

func spans(t *testing.T, l string, all []span) {
	t.Helper()
	for _, x := range all {
		name := " of " + l + ", " + strconv.Itoa(x.from) + ", " + strconv.Itoa(x.to)
		is(t, "Runs"+name, runs(list(l), x.from, x.to), x.runs)
		is(t, "Holes"+name, holes(list(l), x.from, x.to), x.holes)
	}
}

func TestP134RunsAndHoles(t *testing.T) {
	const l = "2+6@10 8+2@40 12+4@20"
	spans(t, l, []span{
		{0, 0, "", ""}, {5, 5, "", ""}, {5, 4, "", ""}, {20, 3, "", ""}, {11, 1, "", ""}, {-5, -1, "", ""}, {-5, 0, "", ""}, {65536, 70000, "", ""}, {65537, 65536, "", ""}, {70000, 80000, "", ""},
		{math.MinInt, math.MinInt, "", ""}, {math.MaxInt, math.MinInt, "", ""}, {math.MaxInt, math.MaxInt, "", ""}, {math.MinInt, 0, "", ""}, {65536, math.MaxInt, "", ""},
		{0, 65536, l, "0+2 10+2 16+65520 "}, {-1, 65537, l, "0+2 10+2 16+65520 "}, {math.MinInt, math.MaxInt, l, "0+2 10+2 16+65520 "},
		{-9, 1, "", "0+1 "}, {0, 2, "", "0+2 "}, {1, 2, "", "1+1 "}, {0, 3, "2+1@10", "0+2 "}, {2, 3, "2+1@10", ""}, {2, 8, "2+6@10", ""},
		{3, 5, "3+2@11", ""}, {7, 9, "7+1@15 8+1@40", ""}, {5, 11, "5+3@13 8+2@40", "10+1 "}, {10, 12, "", "10+2 "}, {11, 12, "", "11+1 "}, {10, 11, "", "10+1 "},
		{11, 14, "12+2@20", "11+1 "}, {4, 14, "4+4@12 8+2@40 12+2@20", "10+2 "}, {15, 16, "15+1@23", ""}, {15, 17, "15+1@23", "16+1 "}, {16, 20, "", "16+4 "},
		{65535, 65536, "", "65535+1 "}, {65535, math.MaxInt, "", "65535+1 "}, {15, 70000, "15+1@23", "16+65520 "},
	})
	spans(t, "", []span{{0, 65536, "", "0+65536 "}, {math.MinInt, math.MaxInt, "", "0+65536 "}, {3, 4, "", "3+1 "}, {4, 3, "", ""}})
	const ends = "0+1@1 65535+1@8191"
	spans(t, ends, []span{{0, 65536, ends, "1+65534 "}, {math.MinInt, 1, "0+1@1", ""}, {65535, math.MaxInt, "65535+1@8191", ""}, {1, 65535, "", "1+65534 "}})
	spans(t, "0+4096@1 4096+9@4097", []span{{4000, 4100, "4000+96@4001 4096+4@4097", ""}})
}

// A range may be left at any point, and be done again.
func TestP134LeftEarly(t *testing.T) {
	l := list("2+6@10 8+2@40 12+4@20 30+1@1")
	all, between := extent.Runs(l, 3, 40), extent.Holes(l, 0, 40)
	wantRuns := list("3+5@11 8+2@40 12+4@20 30+1@1")
	wantHoles := [][2]int{{0, 2}, {10, 2}, {16, 14}, {31, 9}}
	for range 2 {
		for stop := 1; stop <= 4; stop++ {
			var got []api.Extent
			for e := range all {
				got = append(got, e)
				if len(got) == stop {
					break
				}
			}
			is(t, "Runs", text(got), text(wantRuns[:stop]))
			var pairs [][2]int
			for first, many := range between {
				pairs = append(pairs, [2]int{first, many})
				if len(pairs) == stop {
					break
				}
			}
			is(t, "Holes", slices.Equal(pairs, wantHoles[:stop]), true)
		}
		is(t, "Runs", text(slices.Collect(all)), text(wantRuns))
	}
}

func TestP134BlocksAndEnd(t *testing.T) {
	for _, x := range []struct {
		l           string
		blocks, end int
	}{
		{"", 0, 0}, {"0+1@1", 1, 1}, {"5+3@9", 3, 8}, {"65535+1@1", 1, 65536}, {"61440+4096@1", 4096, 65536},
		{"2+6@10 8+2@40 12+4@20", 12, 16}, {"0+4@10 4+4@10", 8, 8}, {"0+1@1 65535+1@8191", 2, 65536}, {"0+4096@1 4096+9@4097", 4105, 4105},
	} {
		is(t, "Blocks of "+x.l, extent.Blocks(list(x.l)), x.blocks)
		is(t, "End of "+x.l, extent.End(list(x.l)), x.end)
	}
	var all []api.Extent
	for i := range 16 {
		all = append(all, api.Extent{Logical: 4096 * i, Len: 4096, Phys: 1})
	}
	is(t, "Blocks of all", extent.Blocks(all), 65536)
	is(t, "End of all", extent.End(all), 65536)
	is(t, "Holes of all", holes(all, math.MinInt, math.MaxInt), "")
}

func apart(lists ...string) bool {
	var l [][]api.Extent
	for _, x := range lists {
		l = append(l, list(x))
	}
	return extent.Apart(l...)
}

func TestP134Apart(t *testing.T) {
	for _, x := range [][]string{
		{}, {""}, {"", ""}, {"0+4@10"}, {"0+4@10", ""}, {"0+4@10", "0+4@14"}, {"0+4@10", "0+4@6"}, {"0+4@14", "0+4@6", "0+4@10"}, {"0+4@10 4+4@30", "0+16@14"},
		{"0+4@30 4+4@10", "0+16@14 16+1@9"}, {"0+1@1", "0+1@8191"}, {"0+4096@4096", "0+4095@1"}, {"0+2@10 2+2@13", "0+1@12"}, {"0+4096@1 4096+4095@4097"},
	} {
		is(t, "Apart", apart(x...), true)
	}
	for _, x := range [][]string{
		{"0+4@10", "0+4@10"}, {"0+4@10", "0+4@13"}, {"0+4@10", "9+4@7"}, {"0+4@10", "0+1@12"}, {"0+1@12", "0+4@10"}, {"0+9@10", "0+1@12", "0+1@30"}, {"0+9@10", "0+1@30", "0+1@18"},
		{"0+4@10 4+4@10"}, {"0+4@10 8+1@13"}, {"8+1@20", "0+4@10 8+1@13"}, {"0+4@10 4+4@30", "0+17@14"}, {"0+4@10 4+4@30", "0+16@13"}, {"0+1@8191", "0+1@8191"}, {"0+4096@4096", "0+4096@1"},
		{"0+4@10", "", "0+4@10"}, {"0+1@1", "0+1@2", "0+1@3", "0+1@1"}, {"0+1@3", "0+1@2", "0+1@1", "0+1@3"},
	} {
		is(t, "Apart", apart(x...), false)
	}
	for _, l := range refused() {
		is(t, "Apart of "+l, apart(l), false)
		is(t, "Apart of "+l, apart("9+1@100", l), false)
		is(t, "Apart of "+l, apart(l, "9+1@100"), false)
		is(t, "Apart of "+l, apart("", l, ""), false)
	}
}

// Of all pairs of small extents, in one list and in two.
func TestP134ApartOfAllSmall(t *testing.T) {
	for from := 1; from <= 6; from++ {
		for many := 1; many <= 4; many++ {
			a := api.Extent{Logical: 10, Len: many, Phys: from}
			for other := 1; other <= 6; other++ {
				for length := 1; length <= 4; length++ {
					b := api.Extent{Logical: 20, Len: length, Phys: other}
					common := false
					for i := range many {
						for j := range length {
							common = common || from+i == other+j
						}
					}
					is(t, "in two lists", extent.Apart([]api.Extent{a}, []api.Extent{b}), !common)
					is(t, "in one list", extent.Apart([]api.Extent{a, b}), !common)
				}
			}
		}
	}
}

func TestP134Same(t *testing.T) {
	for i, a := range taken() {
		for j, b := range taken() {
			is(t, "Same of "+a+" and "+b, extent.Same(list(a), list(b)), i == j)
		}
	}
	l := list("2+6@10 8+2@40 12+4@20")
	for i := range l {
		is(t, "shorter", extent.Same(l, l[:i]), false)
		is(t, "shorter", extent.Same(l[:i], l), false)
		is(t, "shorter", extent.Same(l[i:], l), i == 0)
		for _, d := range []api.Extent{{Logical: 1}, {Logical: -1}, {Len: 1}, {Len: -1}, {Phys: 1}, {Phys: -1}} {
			other := slices.Clone(l)
			other[i].Logical += d.Logical
			other[i].Len += d.Len
			other[i].Phys += d.Phys
			is(t, "one field", extent.Same(l, other), false)
			is(t, "one field", extent.Same(other, l), false)
		}
	}
	is(t, "nil and empty", extent.Same(nil, []api.Extent{}), true)
}

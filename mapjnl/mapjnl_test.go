package mapjnl_test

import (
	"math"
	"slices"
	"strconv"
	"testing"

	"slipway/api"
	"slipway/mapjnl"
	"slipway/nand"
)

// stream is a row of numbers that is the same each time.
type stream uint64

func (s *stream) next() uint64 {
	*s = *s*6364136223846793005 + 1442695040888963407
	return uint64(*s >> 33)
}

func (s *stream) below(n int) int { return int(s.next() % uint64(n)) }

// part is something of a state.
type part func(s *api.MapState)

// of is a state with some parts, without the program's help.
func of(blocks int, parts ...part) api.MapState {
	s := api.MapState{Bad: make([]bool, blocks), Wear: make([]int64, blocks)}
	for _, p := range parts {
		p(&s)
	}
	return s
}

func bad(blocks ...int) part {
	return func(s *api.MapState) {
		for _, block := range blocks {
			s.Bad[block] = true
		}
	}
}

func wear(block int, n int64) part { return func(s *api.MapState) { s.Wear[block] = n } }

func seq(n int64) part { return func(s *api.MapState) { s.Seq = n } }

func isBad(block int) api.MapRecord { return api.MapRecord{Kind: api.MrBad, Block: block} }

func isWorn(block int, n int64) api.MapRecord {
	return api.MapRecord{Kind: api.MrWear, Block: block, Value: n}
}

func isUsed(n int64) api.MapRecord { return api.MapRecord{Kind: api.MrSeq, Value: n} }

// partPage is a page of a checkpoint with the blocks of s.
func partPage(gen int64, number int, s api.MapState) api.MapPage {
	return api.MapPage{Kind: api.MpPart, Gen: gen, Part: number, Seq: s.Seq, Bad: s.Bad, Wear: s.Wear}
}

func recordPage(gen int64, l ...api.MapRecord) api.MapPage {
	return api.MapPage{Kind: api.MpRecords, Gen: gen, Records: l}
}

func equal(a, b api.MapState) bool {
	return slices.Equal(a.Bad, b.Bad) && slices.Equal(a.Wear, b.Wear) && a.Seq == b.Seq
}

func equalPages(a, b api.MapPage) bool {
	return a.Kind == b.Kind && a.Gen == b.Gen && a.Part == b.Part && a.Seq == b.Seq &&
		slices.Equal(a.Bad, b.Bad) && slices.Equal(a.Wear, b.Wear) && slices.Equal(a.Records, b.Records)
}

func isZero(s api.MapState) bool { return s.Bad == nil && s.Wear == nil && s.Seq == 0 }

func isZeroPage(p api.MapPage) bool {
	return p.Kind == 0 && p.Gen == 0 && p.Part == 0 && p.Seq == 0 && p.Bad == nil && p.Wear == nil && p.Records == nil
}

func is(t *testing.T, name string, got, want api.Errno) {
	t.Helper()
	if got != want {
		t.Errorf("%s: %v, want %v", name, got, want)
	}
}

// made fails if a call did not make this state.
func made(t *testing.T, name string, got api.MapState, e api.Errno, want api.MapState) {
	t.Helper()
	if e != api.OK || !equal(got, want) {
		t.Errorf("%s: %v, %v, want %v", name, got, e, want)
	}
}

// refused fails if a call did not answer this error, and nothing but zero values beside it.
func refused(t *testing.T, name string, got api.MapState, e, want api.Errno) {
	t.Helper()
	if e != want || !isZero(got) {
		t.Errorf("%s: %v, %v, want %v", name, got, e, want)
	}
}

func madePage(t *testing.T, name string, got api.MapPage, e api.Errno, want api.MapPage) {
	t.Helper()
	if e != api.OK || !equalPages(got, want) {
		t.Errorf("%s: %v, %v, want %v", name, got, e, want)
	}
}

func refusedPage(t *testing.T, name string, got api.MapPage, e, want api.Errno) {
	t.Helper()
	if e != want || !isZeroPage(got) {
		t.Errorf("%s: %v, %v, want %v", name, got, e, want)
	}
}

// states that may not be, each for one reason alone.
func badStates() map[string]api.MapState {
	more, fewer, none, noBad := of(16), of(16), of(16), of(16)
	more.Wear = make([]int64, 17)
	fewer.Wear = make([]int64, 15)
	none.Wear, noBad.Bad = nil, nil
	return map[string]api.MapState{
		"more of Wear":       more,
		"fewer of Wear":      fewer,
		"no Wear":            none,
		"no Bad":             noBad,
		"nothing":            {},
		"empty lists":        {Bad: []bool{}, Wear: []int64{}},
		"MinBlocks - 1":      of(api.MinBlocks - 1),
		"MaxBlocks + 1":      of(api.MaxBlocks + 1),
		"a wear of -1":       of(16, wear(7, -1)),
		"the last of -1":     of(16, wear(15, -1)),
		"a wear of too much": of(16, wear(0, api.MaxWear+1)),
		"the least wear":     of(16, wear(3, math.MinInt64)),
		"the greatest wear":  of(16, wear(3, math.MaxInt64)),
		"Seq -1":             of(16, seq(-1)),
		"Seq too great":      of(16, seq(api.MaxSeq+1)),
		"the least Seq":      of(16, seq(math.MinInt64)),
		"the greatest Seq":   of(16, seq(math.MaxInt64)),
	}
}

// records that may not be, on any chip.
var badRecords = []api.MapRecord{
	{},
	{Kind: 0, Block: 1},
	{Kind: 4},
	{Kind: -1},
	{Kind: math.MaxInt, Block: 1},
	{Kind: math.MinInt},
	{Kind: api.MrBad + 256},
	{Kind: api.MrBad, Block: -1},
	{Kind: api.MrBad, Block: api.MaxBlocks},
	{Kind: api.MrBad, Block: math.MaxInt},
	{Kind: api.MrBad, Block: math.MinInt},
	{Kind: api.MrBad, Block: 1, Value: 1},
	{Kind: api.MrBad, Block: 1, Value: -1},
	{Kind: api.MrWear, Block: -1, Value: 1},
	{Kind: api.MrWear, Block: api.MaxBlocks, Value: 1},
	{Kind: api.MrWear, Block: math.MaxInt, Value: 1},
	{Kind: api.MrWear, Block: 1, Value: -1},
	{Kind: api.MrWear, Block: 1, Value: api.MaxWear + 1},
	{Kind: api.MrWear, Block: 1, Value: math.MaxInt64},
	{Kind: api.MrWear, Block: 1, Value: math.MinInt64},
	{Kind: api.MrSeq, Block: 1, Value: 1},
	{Kind: api.MrSeq, Block: -1, Value: 1},
	{Kind: api.MrSeq, Value: -1},
	{Kind: api.MrSeq, Value: api.MaxSeq + 1},
	{Kind: api.MrSeq, Value: math.MaxInt64},
	{Kind: api.MrSeq, Value: math.MinInt64},
}

// records that may be, of a chip of MaxBlocks blocks.
var goodRecords = []api.MapRecord{
	{Kind: api.MrBad},
	{Kind: api.MrBad, Block: api.MaxBlocks - 1},
	{Kind: api.MrWear},
	{Kind: api.MrWear, Block: api.MaxBlocks - 1},
	{Kind: api.MrWear, Value: api.MaxWear},
	{Kind: api.MrWear, Block: 3, Value: 1},
	{Kind: api.MrSeq},
	{Kind: api.MrSeq, Value: 1},
	{Kind: api.MrSeq, Value: api.MaxSeq},
}

var badGens = []int64{-1, api.MaxGen + 1, math.MaxInt64, math.MinInt64}

var goodGens = []int64{0, 1, 255, 256, api.MaxGen - 1, api.MaxGen}

func TestExample(t *testing.T) {
	if n := mapjnl.Parts(16); n != 1 {
		t.Error("Parts", n)
	}
	s, e := mapjnl.New(16)
	is(t, "New", e, api.OK)
	s, e = mapjnl.Apply(s, isWorn(3, 5))
	made(t, "5", s, e, of(16, wear(3, 5)))
	s, e = mapjnl.Apply(s, isWorn(3, 4))
	made(t, "4 behind it", s, e, of(16, wear(3, 5)))
}

func TestP61New(t *testing.T) {
	for _, blocks := range []int{api.MinBlocks, api.MinBlocks + 1, 64, 65, api.MaxBlocks - 1, api.MaxBlocks} {
		s, e := mapjnl.New(blocks)
		made(t, strconv.Itoa(blocks), s, e, of(blocks))
		is(t, "Check", mapjnl.Check(s), api.OK)
	}
	for _, blocks := range []int{api.MinBlocks - 1, api.MaxBlocks + 1, 0, -1, -16, math.MaxInt, math.MinInt} {
		s, e := mapjnl.New(blocks)
		refused(t, strconv.Itoa(blocks), s, e, api.ErrGeometry)
	}
}

func TestP61Check(t *testing.T) {
	for name, s := range map[string]api.MapState{
		"new":          of(16),
		"the most":     of(256),
		"some":         of(70, bad(0, 69), wear(69, 5), seq(9)),
		"all bad":      of(16, bad(0, 1, 2, 3, 4, 5, 6, 7, 8, 9, 10, 11, 12, 13, 14, 15)),
		"MaxWear":      of(16, wear(0, api.MaxWear), wear(15, api.MaxWear)),
		"MaxSeq":       of(16, seq(api.MaxSeq)),
		"nearly":       of(255, wear(254, api.MaxWear-1), seq(api.MaxSeq-1)),
		"a bad one of": of(16, bad(3), wear(3, api.MaxWear)),
	} {
		is(t, name, mapjnl.Check(s), api.OK)
	}
	for name, s := range badStates() {
		is(t, name, mapjnl.Check(s), api.ErrState)
	}
}

func TestP61Same(t *testing.T) {
	all := []api.MapState{
		of(16), of(17), of(16, bad(0)), of(16, bad(15)), of(16, wear(0, 1)), of(16, wear(15, 1)), of(16, seq(1)), of(16, seq(-1)),
		{}, {Seq: 1}, {Bad: make([]bool, 16)}, {Wear: make([]int64, 16)}, {Bad: []bool{true}}, {Wear: []int64{-1}},
	}
	for i, a := range all {
		for j, b := range all {
			b = copyOf(b)
			if mapjnl.Same(a, b) != (i == j) {
				t.Errorf("Same of %v and %v: %v", a, b, i != j)
			}
		}
	}
	if !mapjnl.Same(api.MapState{}, api.MapState{Bad: []bool{}, Wear: []int64{}}) || !mapjnl.Same(api.MapState{Bad: []bool{}}, api.MapState{Wear: []int64{}}) {
		t.Error("empty and nil lists are not the same")
	}
}

func TestP61SamePage(t *testing.T) {
	full := func() api.MapPage {
		return api.MapPage{Kind: 1, Gen: 2, Part: 3, Seq: 4, Bad: []bool{true, false}, Wear: []int64{5, 6}, Records: []api.MapRecord{isWorn(7, 8), isBad(9)}}
	}
	all := []api.MapPage{full(), {}}
	for _, change := range []func(p *api.MapPage){
		func(p *api.MapPage) { p.Kind = 2 },
		func(p *api.MapPage) { p.Gen = 3 },
		func(p *api.MapPage) { p.Part = 2 },
		func(p *api.MapPage) { p.Seq = 5 },
		func(p *api.MapPage) { p.Bad[1] = true },
		func(p *api.MapPage) { p.Bad = p.Bad[:1] },
		func(p *api.MapPage) { p.Bad = nil },
		func(p *api.MapPage) { p.Wear[1] = 7 },
		func(p *api.MapPage) { p.Wear = p.Wear[:1] },
		func(p *api.MapPage) { p.Wear = nil },
		func(p *api.MapPage) { p.Records[0].Kind = 3 },
		func(p *api.MapPage) { p.Records[0].Block = 6 },
		func(p *api.MapPage) { p.Records[1].Value = 1 },
		func(p *api.MapPage) { slices.Reverse(p.Records) },
		func(p *api.MapPage) { p.Records = p.Records[:1] },
		func(p *api.MapPage) { p.Records = nil },
	} {
		p := full()
		change(&p)
		all = append(all, p)
	}
	for i, a := range all {
		for j, b := range all {
			b = copyOfPage(b)
			if mapjnl.SamePage(a, b) != (i == j) {
				t.Errorf("SamePage of %v and %v: %v", a, b, i != j)
			}
		}
	}
	if !mapjnl.SamePage(api.MapPage{}, api.MapPage{Bad: []bool{}, Wear: []int64{}, Records: []api.MapRecord{}}) {
		t.Error("empty and nil lists are not the same")
	}
}

func TestP62Join(t *testing.T) {
	a := of(16, bad(0, 3), wear(1, 5), wear(2, 7), wear(15, 1), seq(4))
	b := of(16, bad(3, 15), wear(1, 6), wear(2, 6), wear(4, api.MaxWear), seq(9))
	want := of(16, bad(0, 3, 15), wear(1, 6), wear(2, 7), wear(4, api.MaxWear), wear(15, 1), seq(9))
	got, e := mapjnl.Join(a, b)
	made(t, "both", got, e, want)
	got, e = mapjnl.Join(b, a)
	made(t, "the other way round", got, e, want)
	got, e = mapjnl.Join(a, a)
	made(t, "itself", got, e, a)
	got, e = mapjnl.Join(a, of(16))
	made(t, "with new", got, e, a)
	got, e = mapjnl.Join(of(256, bad(255), wear(255, 1), seq(api.MaxSeq)), of(256, wear(255, 2)))
	made(t, "the most", got, e, of(256, bad(255), wear(255, 2), seq(api.MaxSeq)))
	for _, n := range []int{17, 64, 256} {
		got, e = mapjnl.Join(of(16), of(n))
		refused(t, "more blocks", got, e, api.ErrArg)
		got, e = mapjnl.Join(of(n), of(16))
		refused(t, "fewer blocks", got, e, api.ErrArg)
	}
	for name, x := range badStates() {
		// Of other states, too, with unlike many blocks: that it may not be counts first.
		for _, y := range []api.MapState{of(16), of(17), of(256), {}, x} {
			got, e = mapjnl.Join(x, y)
			refused(t, name, got, e, api.ErrState)
			got, e = mapjnl.Join(y, x)
			refused(t, name+", the second one", got, e, api.ErrState)
		}
	}
}

func TestP62Covers(t *testing.T) {
	a := of(16, bad(0, 3), wear(1, 5), wear(2, 7), seq(4))
	for name, c := range map[string]struct {
		b    api.MapState
		want bool
	}{
		"itself":     {a, true},
		"new":        {of(16), true},
		"less":       {of(16, bad(3), wear(1, 4), seq(3)), true},
		"another":    {of(16, bad(1)), false},
		"more wear":  {of(16, wear(1, 6)), false},
		"more Seq":   {of(16, seq(5)), false},
		"worn there": {of(16, wear(15, 1)), false},
		"more":       {of(17), false},
		"far more":   {of(256), false},
	} {
		if mapjnl.Covers(a, c.b) != c.want {
			t.Errorf("%s: %v", name, !c.want)
		}
	}
	if mapjnl.Covers(of(17, bad(0, 3), wear(1, 5), wear(2, 7), seq(4)), a) {
		t.Error("it has more blocks")
	}
	if mapjnl.Covers(of(16), a) || mapjnl.Covers(of(16, bad(1)), a) || mapjnl.Covers(a, of(16, bad(1))) {
		t.Error("neither covers the other, but for new")
	}
	for name, x := range badStates() {
		for _, y := range []api.MapState{of(16), of(17), of(256), {}, x} {
			if mapjnl.Covers(x, y) || mapjnl.Covers(y, x) {
				t.Errorf("%s: covers, or is covered by, %v", name, y)
			}
		}
	}
}

func TestP62WhichRecordsMayBe(t *testing.T) {
	for _, r := range goodRecords {
		_, e := mapjnl.Apply(of(256), r)
		is(t, "Apply", e, api.OK)
		_, e = mapjnl.Records(0, r)
		is(t, "Records", e, api.OK)
		_, e = mapjnl.Bytes(recordPage(0, r))
		is(t, "Bytes", e, api.OK)
	}
	for _, r := range badRecords {
		s, e := mapjnl.Apply(of(256), r)
		refused(t, "Apply", s, e, api.ErrRecord)
		p, e := mapjnl.Records(0, r)
		refusedPage(t, "Records", p, e, api.ErrRecord)
		b, e := mapjnl.Bytes(recordPage(0, r))
		if e != api.ErrPage || b != nil {
			t.Errorf("Bytes of %v: %v, %v", r, b, e)
		}
		// One that may not be behind, and ahead of, some that may.
		s, e = mapjnl.Apply(of(256), isBad(1), r)
		refused(t, "Apply behind one", s, e, api.ErrRecord)
		s, e = mapjnl.Apply(of(256), r, isBad(1))
		refused(t, "Apply ahead of one", s, e, api.ErrRecord)
		p, e = mapjnl.Records(0, isBad(1), isUsed(1), r)
		refusedPage(t, "Records behind some", p, e, api.ErrRecord)
		_, e = mapjnl.Bytes(recordPage(0, isBad(1), r, isBad(1)))
		is(t, "Bytes among some", e, api.ErrPage)
	}
}

func TestP62Apply(t *testing.T) {
	s := of(16, bad(2), wear(3, 5), seq(9))
	apply := func(want api.MapState, l ...api.MapRecord) {
		t.Helper()
		got, e := mapjnl.Apply(s, l...)
		made(t, "Apply", got, e, want)
	}
	apply(s)
	apply(s, isBad(2))
	apply(of(16, bad(2, 0), wear(3, 5), seq(9)), isBad(0))
	apply(of(16, bad(2, 15), wear(3, 5), seq(9)), isBad(15))
	apply(s, isWorn(3, 4))
	apply(s, isWorn(3, 5))
	apply(s, isWorn(3, 0))
	apply(of(16, bad(2), wear(3, 6), seq(9)), isWorn(3, 6))
	apply(of(16, bad(2), wear(3, api.MaxWear), seq(9)), isWorn(3, api.MaxWear), isWorn(3, 7))
	apply(of(16, bad(2), wear(3, 5), wear(2, 1), seq(9)), isWorn(2, 1))
	apply(s, isUsed(0))
	apply(s, isUsed(8))
	apply(of(16, bad(2), wear(3, 5), seq(10)), isUsed(10))
	apply(of(16, bad(2), wear(3, 5), seq(api.MaxSeq)), isUsed(api.MaxSeq), isUsed(11))
	apply(of(16, bad(2, 3, 4), wear(3, 8), wear(0, 2), seq(20)), isBad(3), isWorn(0, 2), isWorn(3, 8), isUsed(20), isBad(4), isWorn(0, 1))
	for _, n := range []int{16, 17, 64, 70, 255} {
		// The blocks behind the last one there are not.
		got, e := mapjnl.Apply(of(n), isBad(n-1), isWorn(n-1, 3))
		made(t, "the last block", got, e, of(n, bad(n-1), wear(n-1, 3)))
		for _, r := range []api.MapRecord{isBad(n), isWorn(n, 0), isWorn(n, 3), isBad(255 + 1), isWorn(256, 1)} {
			got, e = mapjnl.Apply(of(n), r)
			refused(t, "a block that it has not", got, e, api.ErrRecord)
			got, e = mapjnl.Apply(of(n), isBad(0), r, isUsed(1))
			refused(t, "a block that it has not, among others", got, e, api.ErrRecord)
		}
	}
	for name, x := range badStates() {
		got, e := mapjnl.Apply(x)
		refused(t, name, got, e, api.ErrState)
		got, e = mapjnl.Apply(x, isBad(0))
		refused(t, name, got, e, api.ErrState)
		got, e = mapjnl.Apply(x, api.MapRecord{})
		refused(t, name+" and a record that may not be", got, e, api.ErrState)
	}
}

func TestP62Diff(t *testing.T) {
	diff := func(a, b api.MapState, want ...api.MapRecord) {
		t.Helper()
		got, e := mapjnl.Diff(a, b)
		if e != api.OK || !slices.Equal(got, want) {
			t.Errorf("Diff: %v, %v, want %v", got, e, want)
		}
	}
	s := of(16, bad(2), wear(3, 5), seq(9))
	diff(s, s)
	diff(of(16), of(16))
	diff(of(16), s, isUsed(9), isBad(2), isWorn(3, 5))
	diff(of(16), of(16, bad(7), wear(7, 3), seq(1)), isUsed(1), isBad(7), isWorn(7, 3))
	diff(of(16), of(16, bad(0), wear(0, 3), seq(1)), isUsed(1), isBad(0), isWorn(0, 3))
	diff(s, of(16, bad(2, 3), wear(3, 6), wear(15, api.MaxWear), seq(9)), isBad(3), isWorn(3, 6), isWorn(15, api.MaxWear))
	diff(s, of(16, bad(2, 15), wear(2, 1), wear(3, 5), seq(api.MaxSeq)), isUsed(api.MaxSeq), isWorn(2, 1), isBad(15))
	for _, b := range []api.MapState{
		of(16), of(16, bad(2), wear(3, 5), seq(8)), of(16, bad(2), wear(3, 4), seq(9)), of(16, wear(3, 5), seq(9)),
		of(16, bad(3), wear(3, 6), seq(10)), of(17, bad(2), wear(3, 5), seq(9)), of(256, bad(2), wear(3, 5), seq(9)),
	} {
		if got, e := mapjnl.Diff(s, b); e != api.ErrArg || got != nil {
			t.Errorf("Diff to %v: %v, %v", b, got, e)
		}
	}
	for name, x := range badStates() {
		for _, y := range []api.MapState{of(16), of(256), {}, x} {
			if got, e := mapjnl.Diff(x, y); e != api.ErrState || got != nil {
				t.Errorf("%s: %v, %v", name, got, e)
			}
			if got, e := mapjnl.Diff(y, x); e != api.ErrState || got != nil {
				t.Errorf("%s, the second one: %v, %v", name, got, e)
			}
		}
	}
}

func TestP63Parts(t *testing.T) {
	for blocks, want := range map[int]int{
		math.MinInt: 0, -64: 0, -1: 0, 0: 0, 1: 0, 15: 0, 16: 1, 63: 1, 64: 1, 65: 2, 70: 2, 127: 2, 128: 2, 129: 3, 192: 3, 193: 4, 255: 4, 256: 4,
		257: 0, 320: 0, math.MaxInt: 0,
	} {
		if got := mapjnl.Parts(blocks); got != want {
			t.Errorf("%d blocks: %d, want %d", blocks, got, want)
		}
	}
}

func TestP63Checkpoint(t *testing.T) {
	for _, blocks := range []int{16, 63, 64, 65, 70, 128, 129, 192, 255, 256} {
		s := of(blocks, seq(77))
		for i := range blocks {
			s.Bad[i], s.Wear[i] = i%3 == 0, int64(1000+i)
		}
		for _, gen := range goodGens {
			pages, e := mapjnl.Checkpoint(s, gen)
			is(t, "Checkpoint", e, api.OK)
			if len(pages) != (blocks+63)/64 {
				t.Fatalf("%d blocks: %d pages", blocks, len(pages))
			}
			for i, p := range pages {
				end := min(64*i+64, blocks)
				madePage(t, "a part", p, e, api.MapPage{Kind: api.MpPart, Gen: gen, Part: i, Seq: 77, Bad: s.Bad[64*i : end], Wear: s.Wear[64*i : end]})
			}
		}
	}
	for _, gen := range badGens {
		if l, e := mapjnl.Checkpoint(of(16), gen); e != api.ErrArg || l != nil {
			t.Errorf("gen %d: %v, %v", gen, l, e)
		}
	}
	for name, x := range badStates() {
		for _, gen := range []int64{0, -1} {
			if l, e := mapjnl.Checkpoint(x, gen); e != api.ErrState || l != nil {
				t.Errorf("%s, gen %d: %v, %v", name, gen, l, e)
			}
		}
	}
}

func TestP63Records(t *testing.T) {
	many := make([]api.MapRecord, 0, 2*api.MaxRecords)
	for i := range api.MaxRecords {
		many = append(many, isWorn(i, int64(i)))
	}
	for _, gen := range goodGens {
		for _, l := range [][]api.MapRecord{nil, {}, {isBad(3)}, {isBad(3), isBad(3), isUsed(1)}, goodRecords, many} {
			p, e := mapjnl.Records(gen, l...)
			madePage(t, "Records", p, e, recordPage(gen, l...))
		}
	}
	p, e := mapjnl.Records(0, append(many, isBad(0))...)
	refusedPage(t, "one more", p, e, api.ErrLong)
	p, e = mapjnl.Records(0, append(many, api.MapRecord{})...)
	refusedPage(t, "one more, that may not be", p, e, api.ErrLong)
	p, e = mapjnl.Records(0, append(slices.Clone(many[1:]), api.MapRecord{})...)
	refusedPage(t, "the last one may not be", p, e, api.ErrRecord)
	for _, gen := range badGens {
		for _, l := range [][]api.MapRecord{nil, {isBad(3)}, {{}}, append(many, isBad(0)), append(many, api.MapRecord{})} {
			p, e = mapjnl.Records(gen, l...)
			refusedPage(t, "gen", p, e, api.ErrArg)
		}
	}
}

// P6.9: on each chip that nand.New takes a checkpoint has fewer pages than a block.
func TestP69ItFits(t *testing.T) {
	chips := 0
	for blocks := api.MinBlocks - 1; blocks <= api.MaxBlocks+1; blocks++ {
		for pages := api.MinPages - 1; pages <= api.MaxPages+1; pages++ {
			if _, e := nand.New(api.Geometry{Blocks: blocks, Pages: pages}, nil); e != api.OK {
				continue
			}
			chips++
			s, e := mapjnl.New(blocks)
			is(t, "New", e, api.OK)
			l, e := mapjnl.Checkpoint(s, 1)
			is(t, "Checkpoint", e, api.OK)
			if len(l) != mapjnl.Parts(blocks) || len(l) < 1 || len(l) >= pages {
				t.Fatalf("%d blocks of %d pages: %d pages of a checkpoint", blocks, pages, len(l))
			}
			for _, p := range l {
				b, e := mapjnl.Bytes(p)
				if e != api.OK || len(b) != api.PageLen {
					t.Fatal("Bytes", len(b), e)
				}
			}
		}
	}
	if chips < 1000 {
		t.Error("but few chips:", chips)
	}
}

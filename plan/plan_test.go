package plan_test

import (
	"iter"
	"math"
	"slices"
	"strconv"
	"testing"

	"slipway/api"
	"slipway/plan"
)

// stream is a row of numbers that is the same each time.
type stream uint64

func (s *stream) next() uint64 {
	*s = *s*6364136223846793005 + 1442695040888963407
	return uint64(*s >> 33)
}

func (s *stream) below(n int) int { return int(s.next() % uint64(n)) }

// shuffled is the numbers below n, in any order.
func (s *stream) shuffled(n int) []int {
	l := make([]int, n)
	for i := range l {
		j := s.below(i + 1)
		l[i], l[j] = l[j], i
	}
	return l
}

// part is something of a table.
type part func(x *api.Table)

// of is a table with some parts, without the program's help.
func of(pages, logical, k int, parts ...part) api.Table {
	x := api.Table{
		Pages: pages, Logical: logical, K: k,
		Data: slices.Repeat([]int{-1}, logical), Have: make([]bool, logical*pages), Seq: api.SeqLog{Phys: -1},
	}
	for _, p := range parts {
		p(&x)
	}
	return x
}

// data is a logical block's data, with these pages of it.
func data(block, phys int, numbers ...int) part {
	return func(x *api.Table) {
		x.Data[block] = phys
		for _, n := range numbers {
			x.Have[block*x.Pages+n] = true
		}
	}
}

func seq(phys, logical, used int) part {
	return func(x *api.Table) { x.Seq = api.SeqLog{Phys: phys, Logical: logical, Used: used} }
}

func log(phys int, pages ...int) part {
	return func(x *api.Table) { x.Logs = append(x.Logs, api.RandLog{Phys: phys, Pages: slices.Clone(pages)}) }
}

// rich is a table that has something of everything: pages in two logs, in Seq, in Data, nowhere, and in several of these.
func rich() api.Table {
	return of(4, 4, 3,
		data(0, 10, 0, 1, 2, 3), data(1, 11, 1, 3), data(3, 13),
		seq(20, 1, 3),
		log(30, 1, -1, 6, 12), log(31, 3, 9))
}

// copyOf is a table in other memory, without the program's help.
func copyOf(x api.Table) api.Table {
	x.Data, x.Have = append([]int{}, x.Data...), append([]bool{}, x.Have...)
	logs := []api.RandLog{}
	for _, l := range x.Logs {
		logs = append(logs, api.RandLog{Phys: l.Phys, Pages: append([]int{}, l.Pages...)})
	}
	x.Logs = logs
	return x
}

func with(x api.Table, parts ...part) api.Table {
	x = copyOf(x)
	for _, p := range parts {
		p(&x)
	}
	return x
}

func equal(a, b api.Table) bool {
	if a.Pages != b.Pages || a.Logical != b.Logical || a.K != b.K || a.Seq != b.Seq || len(a.Logs) != len(b.Logs) {
		return false
	}
	for i, l := range a.Logs {
		if l.Phys != b.Logs[i].Phys || !slices.Equal(l.Pages, b.Logs[i].Pages) {
			return false
		}
	}
	return slices.Equal(a.Data, b.Data) && slices.Equal(a.Have, b.Have)
}

func isZero(x api.Table) bool {
	return x.Pages == 0 && x.Logical == 0 && x.K == 0 && x.Seq == api.SeqLog{} && x.Data == nil && x.Have == nil && x.Logs == nil
}

func is(t *testing.T, name string, got, want api.Errno) {
	t.Helper()
	if got != want {
		t.Errorf("%s: %v, want %v", name, got, want)
	}
}

// made fails if a call did not make this table.
func made(t *testing.T, name string, got api.Table, e api.Errno, want api.Table) {
	t.Helper()
	if e != api.OK || !equal(got, want) {
		t.Errorf("%s: %v, %v, want %v", name, got, e, want)
	}
}

// refused fails if a call did not answer this error, or a table beside it.
func refused(t *testing.T, name string, got api.Table, e, want api.Errno) {
	t.Helper()
	if e != want || !isZero(got) {
		t.Errorf("%s: %v, %v, want %v and an empty table", name, got, e, want)
	}
}

func copyAt(phys, page, to int) api.Copy {
	return api.Copy{From: api.Place{Phys: phys, Page: page}, Page: to}
}

// tells fails if the iterator does not go through these copies.
func tells(t *testing.T, name string, copies iter.Seq[api.Copy], want ...api.Copy) {
	t.Helper()
	if got := slices.Collect(copies); !slices.Equal(got, want) {
		t.Errorf("%s: %v, want %v", name, got, want)
	}
}

func step(kind int, block ...int) api.Step {
	s := api.Step{Kind: kind}
	for _, b := range block {
		s.Block = b
	}
	return s
}

var (
	oddNumbers = []int{math.MinInt, math.MinInt + 1, -100, -2, -1, 0, 1, 2, 3, 4, 7, 15, 16, 31, 32, 255, 256, 8191, 8192, math.MaxInt - 1, math.MaxInt}
	oddKinds   = []int{math.MinInt, -9, -1, 0, 10, 11, math.MaxInt}
	allKinds   = []int{api.StSeq, api.StRand, api.StOpenSeq, api.StOpenRand, api.StSwitch, api.StPartial, api.StFull, api.StVictim, api.StDrop}
)

func TestP51New(t *testing.T) {
	for _, pages := range []int{4, 5, 17, 31, 32} {
		for _, logical := range []int{1, 2, 100, 255, 256} {
			for _, k := range []int{1, 2, 7, 8} {
				x, e := plan.New(pages, logical, k)
				made(t, "New", x, e, of(pages, logical, k))
				is(t, "New's table", plan.Check(x), api.OK)
				if len(x.Logs) != 0 || x.Seq != (api.SeqLog{Phys: -1}) || slices.Contains(x.Have, true) || slices.Max(x.Data) != -1 {
					t.Error(x)
				}
			}
		}
	}
}

func TestP51NewRefuses(t *testing.T) {
	few, many := []int{math.MinInt, -1, 0}, []int{math.MaxInt, math.MaxInt - 1}
	for _, pages := range slices.Concat(few, many, []int{1, 3, 33, 64}) {
		x, e := plan.New(pages, 1, 1)
		refused(t, "pages "+strconv.Itoa(pages), x, e, api.ErrArg)
	}
	for _, logical := range slices.Concat(few, many, []int{257, 1 << 62}) {
		x, e := plan.New(4, logical, 1)
		refused(t, "logical "+strconv.Itoa(logical), x, e, api.ErrArg)
	}
	for _, k := range slices.Concat(few, many, []int{9}) {
		x, e := plan.New(4, 1, k)
		refused(t, "k "+strconv.Itoa(k), x, e, api.ErrArg)
	}
	for _, n := range slices.Concat(few, many) {
		x, e := plan.New(n, n, n)
		refused(t, "all "+strconv.Itoa(n), x, e, api.ErrArg)
	}
}

// badTables may none of them be; each has one thing wrong.
func badTables() map[string]api.Table {
	resized := func(change func(x *api.Table)) api.Table { return with(rich(), change) }
	bad := map[string]api.Table{
		"zero":                             {},
		"empty lists":                      {Data: []int{}, Have: []bool{}, Logs: []api.RandLog{}},
		"sizes alone":                      {Pages: 4, Logical: 1, K: 1, Seq: api.SeqLog{Phys: -1}},
		"too few pages":                    of(3, 4, 3),
		"too many pages":                   of(33, 4, 3),
		"no logical block":                 of(4, 0, 3),
		"too many logical blocks":          of(4, 257, 3),
		"no log":                           of(4, 4, 0),
		"too many logs":                    of(4, 4, 9),
		"a number of data less":            resized(func(x *api.Table) { x.Data = x.Data[:3] }),
		"a number of data more":            resized(func(x *api.Table) { x.Data = append(x.Data, -1) }),
		"no data":                          resized(func(x *api.Table) { x.Data = nil }),
		"a truth less":                     resized(func(x *api.Table) { x.Have = x.Have[:15] }),
		"a truth more":                     resized(func(x *api.Table) { x.Have = append(x.Have, false) }),
		"no truths":                        resized(func(x *api.Table) { x.Have = nil }),
		"a log more than K":                of(4, 4, 1, log(1, -1, -1, -1, -1), log(2)),
		"a log more than MaxLogs":          of(4, 4, 8, log(1, -1, -1, -1, -1), log(2, -1, -1, -1, -1), log(3, -1, -1, -1, -1), log(4, -1, -1, -1, -1), log(5, -1, -1, -1, -1), log(6, -1, -1, -1, -1), log(7, -1, -1, -1, -1), log(8, -1, -1, -1, -1), log(9)),
		"data and data":                    of(4, 4, 3, data(0, 7), data(3, 7)),
		"data and data side by side":       of(4, 4, 3, data(0, 0), data(1, 0)),
		"data and Seq":                     of(4, 4, 3, data(2, 7), seq(7, 1, 0)),
		"data and its own Seq":             of(4, 4, 3, data(2, 7), seq(7, 2, 4)),
		"data and a log":                   of(4, 4, 3, data(2, 7), log(7)),
		"Seq and a log":                    of(4, 4, 3, seq(7, 0, 0), log(7)),
		"two logs":                         of(4, 4, 3, log(7, -1, -1, -1, -1), log(7)),
		"two logs of three":                of(4, 4, 3, log(7, -1, -1, -1, -1), log(8, -1, -1, -1, -1), log(7)),
		"block 255 twice":                  of(4, 4, 3, data(2, 255), log(255)),
		"a page without data":              of(4, 4, 3, data(2, -1, 0)),
		"the last page without data":       of(4, 4, 3, data(3, -1, 3)),
		"a page without data beside one":   of(4, 4, 3, data(0, 7, 0), data(1, -1, 0)),
		"no Seq, but a block":              of(4, 4, 3, seq(-1, 1, 0)),
		"no Seq, but a block below 0":      of(4, 4, 3, seq(-1, -1, 0)),
		"no Seq, but a page":               of(4, 4, 3, seq(-1, 0, 1)),
		"no Seq, but less than a page":     of(4, 4, 3, seq(-1, 0, -1)),
		"Seq of block -1":                  of(4, 4, 3, seq(7, -1, 0)),
		"Seq of the block behind the last": of(4, 4, 3, seq(7, 4, 0)),
		"Seq of the least block":           of(4, 4, 3, seq(7, math.MinInt, 0)),
		"Seq of the greatest block":        of(4, 4, 3, seq(7, math.MaxInt, 0)),
		"Seq with -1 pages":                of(4, 4, 3, seq(7, 1, -1)),
		"Seq with a page too many":         of(4, 4, 3, seq(7, 1, 5)),
		"Seq with the least pages":         of(4, 4, 3, seq(7, 1, math.MinInt)),
		"Seq with the most pages":          of(4, 4, 3, seq(7, 1, math.MaxInt)),
		"an empty log but the last":        of(4, 4, 3, log(7), log(8)),
		"a log but the last has 3 pages":   of(4, 4, 3, log(7, -1, 1, 2), log(8)),
		"a log but the last has 5 pages":   of(4, 4, 3, log(7, -1, 1, 2, 3, 4), log(8)),
		"the second of three has 3 pages":  of(4, 4, 3, log(7, -1, -1, -1, -1), log(8, -1, 1, 2), log(9)),
		"the last log has 5 pages":         of(4, 4, 3, log(7, -1, -1, -1, -1), log(8, -1, -1, -1, -1, -1)),
		"the only log has 5 pages":         of(4, 4, 3, log(7, 0, 1, 2, 3, 4)),
		"a page twice in one log":          of(4, 4, 3, log(7, 5, 1, 5)),
		"page 0 twice in one log":          of(4, 4, 3, log(7, 0, 0)),
		"a page twice in two logs":         of(4, 4, 3, log(7, 5, 1, 2, -1), log(8, -1, 5)),
		"a page in the first and the last": of(4, 4, 3, log(7, 5, -1, -1, -1), log(8, -1, -1, -1, -1), log(9, 5)),
		"all wrong":                        {Pages: -1, Logical: 7, K: 99, Data: []int{-7}, Logs: []api.RandLog{{Phys: -1, Pages: []int{3, 3, -4}}}},
	}
	for _, n := range []int{math.MinInt, -2, 256, 257, math.MaxInt} {
		bad["data "+strconv.Itoa(n)] = of(4, 4, 3, data(0, n))
		bad["the last data "+strconv.Itoa(n)] = of(4, 4, 3, data(3, n, 0, 1, 2, 3))
		bad["Seq's block "+strconv.Itoa(n)] = of(4, 4, 3, seq(n, 0, 0))
		bad["a full Seq's block "+strconv.Itoa(n)] = of(4, 4, 3, seq(n, 1, 4))
	}
	for _, n := range []int{math.MinInt, -2, -1, 256, 257, math.MaxInt} {
		bad["a log's block "+strconv.Itoa(n)] = of(4, 4, 3, log(n))
		bad["the last log's block "+strconv.Itoa(n)] = of(4, 4, 3, log(7, -1, -1, -1, -1), log(n, 3))
		bad["the first log's block "+strconv.Itoa(n)] = of(4, 4, 3, log(n, -1, -1, -1, -1), log(8, 3))
	}
	for _, n := range []int{math.MinInt, -2, 16, 17, math.MaxInt} {
		bad["a log's page "+strconv.Itoa(n)] = of(4, 4, 3, log(7, n))
		bad["a log's last page "+strconv.Itoa(n)] = of(4, 4, 3, log(7, 0, -1, 5, n), log(8))
		bad["the last log's page "+strconv.Itoa(n)] = of(4, 4, 3, log(7, 0, -1, 5, 6), log(8, 7, n))
	}
	return bad
}

func TestP51Check(t *testing.T) {
	for name, x := range badTables() {
		is(t, name, plan.Check(x), api.ErrTable)
	}
	for name, x := range map[string]api.Table{
		"without anything":                of(4, 1, 1),
		"the greatest":                    of(32, 256, 8),
		"rich":                            rich(),
		"data 0":                          of(4, 4, 3, data(0, 0)),
		"data 255":                        of(4, 4, 3, data(3, 255, 0, 3)),
		"data without a page":             of(4, 4, 3, data(1, 1)),
		"Seq's block 0":                   of(4, 4, 3, seq(0, 0, 0)),
		"Seq's block 255":                 of(4, 4, 3, seq(255, 3, 4)),
		"Seq of no page":                  of(4, 4, 3, seq(7, 3, 0)),
		"Seq of all pages":                of(4, 4, 3, seq(7, 3, 4)),
		"a log's block 0":                 of(4, 4, 3, log(0)),
		"a log's block 255":               of(4, 4, 3, log(255, 15)),
		"K logs":                          of(4, 4, 3, log(0, -1, -1, -1, -1), log(1, -1, -1, -1, -1), log(2)),
		"one log":                         of(4, 4, 1, log(2)),
		"MaxLogs":                         of(4, 1, 8, log(0, -1, -1, -1, -1), log(1, -1, -1, -1, 3), log(2, -1, 2, -1, -1), log(3, -1, -1, -1, -1), log(4, -1, -1, -1, -1), log(5, -1, -1, -1, -1), log(6, 0, -1, -1, -1), log(7, 1)),
		"the last log is full":            of(4, 4, 3, log(0, 0, 1, 2, 3)),
		"the last log but one page":       of(4, 4, 3, log(0, 0, 1, 2)),
		"-1 and -1":                       of(4, 4, 3, log(0, -1, -1)),
		"the first and the last page":     of(4, 4, 3, log(0, 0, 15)),
		"a page in a log, Seq and data":   of(4, 4, 3, data(1, 1, 0, 1, 2, 3), seq(2, 1, 4), log(3, 5)),
		"the logical block's own numbers": of(4, 4, 3, data(0, 3), data(1, 2), data(2, 1), data(3, 0)),
	} {
		is(t, name, plan.Check(x), api.OK)
	}
	all := of(4, 256, 8)
	for block := range all.Data {
		all.Data[block] = 255 - block
	}
	is(t, "all blocks", plan.Check(all), api.OK)
	all.Seq.Phys = 0
	is(t, "all blocks and Seq", plan.Check(all), api.ErrTable)
}

// Empty lists and nil ones are the same to Check.
func TestP51CheckOfNilLists(t *testing.T) {
	is(t, "no logs", plan.Check(with(of(4, 1, 1), func(x *api.Table) { x.Logs = nil })), api.OK)
	is(t, "empty logs", plan.Check(with(of(4, 1, 1), func(x *api.Table) { x.Logs = []api.RandLog{} })), api.OK)
	is(t, "a log without pages", plan.Check(of(4, 1, 1, func(x *api.Table) { x.Logs = []api.RandLog{{Phys: 3}} })), api.OK)
	is(t, "a log of empty pages", plan.Check(of(4, 1, 1, func(x *api.Table) { x.Logs = []api.RandLog{{Phys: 3, Pages: []int{}}} })), api.OK)
}

// Whatever else is wrong, a table that may not be is what is told; without an error it is the empty one.
func TestP51TableThatMayNotBe(t *testing.T) {
	for name, x := range badTables() {
		was := copyOf(x)
		for _, n := range oddNumbers {
			if s, e := plan.Want(x, n); s != (api.Step{}) || e != api.ErrTable {
				t.Errorf("%s: Want(%d): %v, %v", name, n, s, e)
			}
			for _, kind := range slices.Concat(allKinds, oddKinds) {
				got, e := plan.Open(x, step(kind, n), n)
				refused(t, name+": Open", got, e, api.ErrTable)
				got, at, e := plan.Put(x, step(kind), n)
				refused(t, name+": Put", got, e, api.ErrTable)
				if at != (api.Place{}) {
					t.Errorf("%s: Put tells %v", name, at)
				}
				got, e = plan.Skip(x, step(kind, n))
				refused(t, name+": Skip", got, e, api.ErrTable)
			}
			got, free, e := plan.Folded(x, n, 100)
			refused(t, name+": Folded", got, e, api.ErrTable)
			other, more, f := plan.Folded(x, 0, n)
			refused(t, name+": Folded", other, f, api.ErrTable)
			if free != nil || more != nil {
				t.Errorf("%s: Folded tells %v, %v", name, free, more)
			}
			if at, ok := plan.Where(x, n); ok || at != (api.Place{}) {
				t.Errorf("%s: Where(%d): %v, %v", name, n, at, ok)
			}
			tells(t, name+": Fold", plan.Fold(x, n))
		}
		tells(t, name+": Rest", plan.Rest(x))
		got, free, e := plan.Switched(x)
		refused(t, name+": Switched", got, e, api.ErrTable)
		other, block, e := plan.Dropped(x)
		refused(t, name+": Dropped", other, e, api.ErrTable)
		if free != nil || block != 0 {
			t.Errorf("%s: Switched tells %v, Dropped %d", name, free, block)
		}
		if l := plan.Used(x); len(l) != 0 {
			t.Errorf("%s: Used: %v", name, l)
		}
		if c := plan.Clone(x); !equal(c, of(4, 1, 1)) {
			t.Errorf("%s: Clone: %v", name, c)
		}
		if !plan.Same(x, of(4, 1, 1)) || !plan.Same(of(4, 1, 1), x) || !plan.Same(x, x) || !plan.Same(x, api.Table{}) {
			t.Errorf("%s: it is not the same as the empty one", name)
		}
		if plan.Same(x, of(4, 1, 2)) || plan.Same(rich(), x) {
			t.Errorf("%s: it is the same as another one", name)
		}
		if !equal(x, was) {
			t.Errorf("%s: it was written to", name)
		}
	}
}

func TestP52Where(t *testing.T) {
	x := rich()
	for page, want := range []struct {
		phys, at int
		why      string
	}{
		{10, 0, "in Data alone"}, {30, 0, "in a log and in Data"}, {10, 2, "in Data"}, {31, 0, "in the last log and in Data"},
		{20, 0, "in Seq alone"}, {20, 1, "in Seq and in Data"}, {30, 2, "in a log and in Seq"}, {11, 3, "behind Seq's pages, in Data"},
		{-1, 0, "nowhere"}, {31, 1, "in the last log alone"}, {-1, 0, "nowhere"}, {-1, 0, "nowhere"},
		{30, 3, "in a log, its block has data without pages"}, {-1, 0, "its block has data, but not of it"}, {-1, 0, "nowhere"}, {-1, 0, "the last one"},
	} {
		at, ok := plan.Where(x, page)
		if want.phys == -1 && (ok || at != api.Place{}) || want.phys != -1 && (!ok || at != api.Place{Phys: want.phys, Page: want.at}) {
			t.Errorf("page %d, %s: %v, %v", page, want.why, at, ok)
		}
	}
	for _, page := range []int{math.MinInt, -5, -4, -1, 16, 17, math.MaxInt} {
		if at, ok := plan.Where(x, page); ok || at != (api.Place{}) {
			t.Errorf("page %d: %v, %v", page, at, ok)
		}
	}
	// A page that is gone from a log is none of block 0.
	gone := of(4, 2, 1, data(0, 9, 0), log(5, -1, -1, -1, -1))
	if at, ok := plan.Where(gone, 0); !ok || at != (api.Place{Phys: 9}) {
		t.Error("block 0:", at, ok)
	}
	// Without a Seq nothing of block 0 stands in one.
	if at, ok := plan.Where(of(4, 2, 1), 0); ok || at != (api.Place{}) {
		t.Error("no Seq:", at, ok)
	}
	// Block 0 of the chip and page 0 are places like others.
	if at, ok := plan.Where(of(4, 2, 1, seq(0, 1, 1)), 4); !ok || at != (api.Place{}) {
		t.Error("0/0:", at, ok)
	}
	last := of(32, 256, 8, data(255, 255, 31))
	if at, ok := plan.Where(last, 8191); !ok || at != (api.Place{Phys: 255, Page: 31}) {
		t.Error("the last of the greatest:", at, ok)
	}
}

func TestP52Used(t *testing.T) {
	for _, c := range []struct {
		x    api.Table
		want []int
	}{
		{of(4, 1, 1), nil},
		{rich(), []int{10, 11, 13, 20, 30, 31}},
		{of(4, 2, 2, data(0, 255), data(1, 3), seq(4, 0, 0), log(0)), []int{0, 3, 4, 255}},
		{of(4, 2, 2, log(9, -1, -1, -1, -1), log(2)), []int{2, 9}},
		{of(4, 2, 2, seq(0, 0, 0)), []int{0}},
	} {
		if l := plan.Used(c.x); !slices.Equal(l, c.want) {
			t.Errorf("%v: %v, want %v", c.x, l, c.want)
		}
	}
}

// One other field is all it takes.
func TestP52Same(t *testing.T) {
	if !plan.Same(rich(), rich()) {
		t.Error("rich is not the same")
	}
	for name, other := range map[string]api.Table{
		"pages":           of(5, 1, 1),
		"logical":         of(4, 2, 1),
		"k":               of(4, 1, 2),
		"data":            of(4, 1, 1, data(0, 3)),
		"Seq":             of(4, 1, 1, seq(3, 0, 0)),
		"a log":           of(4, 1, 1, log(3)),
		"another data":    of(4, 1, 1, data(0, 4)),
		"have":            of(4, 1, 1, data(0, 3, 1)),
		"Seq's block":     of(4, 1, 1, seq(4, 0, 0)),
		"Seq's pages":     of(4, 1, 1, seq(3, 0, 1)),
		"a log's block":   of(4, 1, 1, log(4)),
		"a log's pages":   of(4, 1, 1, log(3, -1)),
		"a log's page":    of(4, 1, 1, log(3, 0)),
		"a log's page, 1": of(4, 1, 1, log(3, 1)),
	} {
		for _, one := range []api.Table{of(4, 1, 1), of(4, 1, 1, data(0, 3)), of(4, 1, 1, data(0, 3, 0)), of(4, 1, 1, seq(3, 0, 0)), of(4, 1, 1, log(3)), of(4, 1, 1, log(3, 0, 1))} {
			if plan.Same(one, other) != equal(one, other) || plan.Same(other, one) != equal(one, other) {
				t.Errorf("%s: %v and %v", name, one, other)
			}
		}
	}
	if plan.Same(of(4, 2, 1, seq(3, 0, 1)), of(4, 2, 1, seq(3, 1, 1))) {
		t.Error("Seq's logical block")
	}
	if plan.Same(of(4, 8, 1), of(8, 4, 1)) {
		t.Error("as many pages in all")
	}
}

func TestP52SameOfNilLists(t *testing.T) {
	none, empty := of(4, 1, 1), of(4, 1, 1)
	none.Logs, empty.Logs = nil, []api.RandLog{}
	if !plan.Same(none, empty) || !plan.Same(empty, none) {
		t.Error("logs")
	}
	none.Logs, empty.Logs = []api.RandLog{{Phys: 3}}, []api.RandLog{{Phys: 3, Pages: []int{}}}
	if !plan.Same(none, empty) || !plan.Same(empty, none) {
		t.Error("pages")
	}
	if !plan.Same(plan.Clone(none), plan.Clone(empty)) || !plan.Same(none, plan.Clone(empty)) {
		t.Error("their clones")
	}
	null := api.Table{Data: []int{}, Have: []bool{}, Logs: []api.RandLog{}}
	if !plan.Same(null, api.Table{}) || !plan.Same(plan.Clone(null), plan.Clone(api.Table{})) {
		t.Error("of nothing")
	}
}

func TestP52Clone(t *testing.T) {
	for _, x := range []api.Table{of(4, 1, 1), rich(), of(32, 256, 8, seq(3, 7, 32))} {
		if c := plan.Clone(x); !equal(c, x) {
			t.Errorf("%v became %v", x, c)
		}
	}
	var s stream = 1
	for range 200 {
		if x := s.table(); !equal(plan.Clone(x), x) {
			t.Fatal(x)
		}
	}
}

func TestP53Want(t *testing.T) {
	full := []int{4, 5, 6, 7}
	for _, c := range []struct {
		name string
		x    api.Table
		page int
		want api.Step
	}{
		{"o is 0, no Seq", of(4, 3, 1), 0, step(api.StOpenSeq, 0)},
		{"o is 0, no Seq, another block", of(4, 3, 1), 8, step(api.StOpenSeq, 2)},
		{"o is 0, no Seq, a log with room", of(4, 3, 1, log(1, 4)), 4, step(api.StOpenSeq, 1)},
		{"o is 0, Seq without a page is its own", of(4, 3, 1, seq(1, 2, 0)), 8, step(api.StSeq, 2)},
		{"o is 0, Seq without a page is another's", of(4, 3, 1, seq(1, 2, 0)), 4, step(api.StPartial, 2)},
		{"o is 0, Seq without a page is another's, of which a log has a page", of(4, 3, 1, seq(1, 2, 0), log(2, 8)), 4, step(api.StPartial, 2)},
		{"o is 0, Seq has some", of(4, 3, 1, seq(1, 2, 3)), 4, step(api.StPartial, 2)},
		{"o is 0, its own Seq has one", of(4, 3, 1, seq(1, 1, 1)), 4, step(api.StPartial, 1)},
		{"o is 0, Seq has all", of(4, 3, 1, seq(1, 2, 4)), 4, step(api.StSwitch, 2)},
		{"o is 0, its own Seq has all", of(4, 3, 1, seq(1, 1, 4)), 4, step(api.StSwitch, 1)},
		{"o is 0, Seq has all, a log its first", of(4, 3, 1, seq(1, 2, 4), log(2, -1, 8)), 4, step(api.StFull, 2)},
		{"o is 0, Seq has all, a log its last", of(4, 3, 1, seq(1, 2, 4), log(2, 11)), 0, step(api.StFull, 2)},
		{"o is 0, Seq has all, a log one of another block", of(4, 3, 1, seq(1, 2, 4), log(2, 7)), 0, step(api.StSwitch, 2)},
		{"o is 0, Seq has all of block 0, logs have none any more", of(4, 3, 1, seq(1, 0, 4), log(2, -1, -1)), 4, step(api.StSwitch, 0)},
		{"o is 0, Seq has some, a log one of them", of(4, 3, 1, seq(1, 2, 2), log(2, 9)), 0, step(api.StFull, 2)},
		{"o is 0, Seq has some, a log the next one", of(4, 3, 1, seq(1, 2, 2), log(2, 10)), 0, step(api.StPartial, 2)},
		{"o is 0, Seq has some, the second log one of them", of(4, 3, 2, seq(1, 2, 2), log(2, full...), log(3, 8)), 0, step(api.StFull, 2)},
		{"o is 0, all logs are full", of(4, 3, 1, log(2, full...)), 8, step(api.StOpenSeq, 2)},
		{"Seq goes on", of(4, 3, 1, seq(1, 2, 1)), 9, step(api.StSeq, 2)},
		{"Seq goes on with the last", of(4, 3, 1, seq(1, 2, 3)), 11, step(api.StSeq, 2)},
		{"Seq goes on, though a log has the page", of(4, 3, 1, seq(1, 2, 1), log(2, 9)), 9, step(api.StSeq, 2)},
		{"Seq goes on, though a log has what it has", of(4, 3, 1, seq(1, 2, 1), log(2, 8)), 9, step(api.StSeq, 2)},
		{"Seq is further", of(4, 3, 1, seq(1, 2, 2)), 9, step(api.StOpenRand, 0)},
		{"Seq is not so far", of(4, 3, 1, seq(1, 2, 2)), 11, step(api.StOpenRand, 0)},
		{"Seq has no page yet", of(4, 3, 1, seq(1, 2, 0)), 9, step(api.StOpenRand, 0)},
		{"Seq is another's", of(4, 3, 1, seq(1, 2, 1)), 5, step(api.StOpenRand, 0)},
		{"no Seq", of(4, 3, 1), 1, step(api.StOpenRand, 0)},
		{"the last page of all", of(4, 3, 1), 11, step(api.StOpenRand, 0)},
		{"a log without pages", of(4, 3, 1, log(2)), 1, step(api.StRand, 0)},
		{"a log that has the page", of(4, 3, 1, log(2, 1)), 1, step(api.StRand, 0)},
		{"a log with room for one", of(4, 3, 1, log(2, 9, 10, 11)), 1, step(api.StRand, 0)},
		{"the last one of two has room", of(4, 3, 2, log(2, full...), log(3, 9)), 1, step(api.StRand, 0)},
		{"a full log, K is 2", of(4, 3, 2, log(2, full...)), 1, step(api.StOpenRand, 0)},
		{"a full log of nothing, K is 2", of(4, 3, 2, log(2, -1, -1, -1, -1)), 1, step(api.StOpenRand, 0)},
		{"a full log, K is 1", of(4, 3, 1, log(2, full...)), 1, step(api.StVictim, 1)},
		{"a full log, its last page is left", of(4, 3, 1, log(2, -1, -1, -1, 9)), 1, step(api.StVictim, 2)},
		{"a full log, some are left", of(4, 3, 1, log(2, -1, 9, 4, -1)), 1, step(api.StVictim, 2)},
		{"a full log with page 0", of(4, 3, 1, log(2, -1, 0, 4, -1)), 1, step(api.StVictim, 0)},
		{"a full log that has the page itself", of(4, 3, 1, log(2, 5, 9, 10, 11)), 5, step(api.StVictim, 1)},
		{"a full log, nothing is left", of(4, 3, 1, log(2, -1, -1, -1, -1)), 1, step(api.StDrop, 0)},
		{"two full ones, nothing is left of the oldest", of(4, 3, 2, log(2, -1, -1, -1, -1), log(3, full...)), 1, step(api.StDrop, 0)},
		{"two full ones, something is left of the oldest", of(4, 3, 2, log(2, -1, -1, -1, 8), log(3, -1, -1, -1, -1)), 1, step(api.StVictim, 2)},
		{"the victim is Seq's block", of(4, 3, 1, seq(1, 2, 2), log(2, 9, -1, -1, -1)), 1, step(api.StVictim, 2)},
	} {
		if got, e := plan.Want(c.x, c.page); got != c.want || e != api.OK {
			t.Errorf("%s: %v, %v, want %v", c.name, got, e, c.want)
		}
	}
	for _, x := range []api.Table{rich(), of(4, 4, 1), of(4, 4, 1, seq(1, 0, 0)), of(4, 4, 1, seq(1, 3, 4), log(2, 0, 1, 2, 3))} {
		for _, page := range []int{math.MinInt, -4, -1, 16, 17, math.MaxInt} {
			if got, e := plan.Want(x, page); got != (api.Step{}) || e != api.ErrArg {
				t.Errorf("page %d: %v, %v", page, got, e)
			}
		}
	}
}

func TestP54Open(t *testing.T) {
	full := log(30, 1, -1, 6, 12)
	for _, phys := range []int{0, 7, 255} {
		got, e := plan.Open(of(4, 4, 2), step(api.StOpenSeq, 3), phys)
		made(t, "StOpenSeq", got, e, of(4, 4, 2, seq(phys, 3, 0)))
		got, e = plan.Open(of(4, 4, 2, data(0, 9), full), step(api.StOpenSeq, 0), phys)
		made(t, "StOpenSeq beside others", got, e, of(4, 4, 2, data(0, 9), full, seq(phys, 0, 0)))
		got, e = plan.Open(of(4, 4, 2), step(api.StOpenRand), phys)
		made(t, "StOpenRand", got, e, of(4, 4, 2, log(phys)))
		got, e = plan.Open(of(4, 4, 2, full, seq(8, 1, 4)), step(api.StOpenRand), phys)
		made(t, "StOpenRand behind another", got, e, of(4, 4, 2, seq(8, 1, 4), full, log(phys)))
		// Only of StOpenSeq is it said that Block counts.
		for _, block := range oddNumbers {
			got, e = plan.Open(of(4, 4, 2), step(api.StOpenRand, block), phys)
			made(t, "StOpenRand of "+strconv.Itoa(block), got, e, of(4, 4, 2, log(phys)))
		}
	}
	for name, c := range map[string]struct {
		x api.Table
		s api.Step
	}{
		"StOpenSeq, and there is a Seq":           {of(4, 4, 2, seq(8, 1, 4)), step(api.StOpenSeq, 3)},
		"StOpenSeq, and there is its Seq":         {of(4, 4, 2, seq(8, 1, 0)), step(api.StOpenSeq, 1)},
		"StOpenSeq of -1":                         {of(4, 4, 2), step(api.StOpenSeq, -1)},
		"StOpenSeq of the block behind the last":  {of(4, 4, 2), step(api.StOpenSeq, 4)},
		"StOpenSeq of the least number":           {of(4, 4, 2), step(api.StOpenSeq, math.MinInt)},
		"StOpenSeq of the greatest number":        {of(4, 4, 2), step(api.StOpenSeq, math.MaxInt)},
		"StOpenRand, and there are K":             {of(4, 4, 1, full), step(api.StOpenRand)},
		"StOpenRand, and there are K, with room":  {of(4, 4, 1, log(30)), step(api.StOpenRand)},
		"StOpenRand, and the last one has room":   {of(4, 4, 2, log(30, 1, 2, 3)), step(api.StOpenRand)},
		"StOpenRand, and the last has no page":    {of(4, 4, 2, log(30)), step(api.StOpenRand)},
		"StOpenRand, and the last of 2 has room":  {of(4, 4, 3, full, log(31, 9)), step(api.StOpenRand)},
		"StOpenSeq of -1, where a log could open": {of(4, 4, 2, seq(8, 1, 4)), step(api.StOpenSeq, -1)},
	} {
		got, e := plan.Open(c.x, c.s, 7)
		refused(t, name, got, e, api.ErrStep)
	}
	for _, kind := range slices.Concat(allKinds, oddKinds) {
		if kind == api.StOpenSeq || kind == api.StOpenRand {
			continue
		}
		for _, x := range []api.Table{of(4, 4, 2), rich(), of(4, 4, 1, seq(8, 1, 4), log(9, -1, -1, -1, -1))} {
			got, e := plan.Open(x, step(kind), 7)
			refused(t, "Open by "+strconv.Itoa(kind), got, e, api.ErrStep)
		}
	}
}

// That there is no such block, or that it is used, is told ahead of the step.
func TestP54OpenOfNoBlock(t *testing.T) {
	for _, x := range []api.Table{rich(), of(4, 4, 2, data(0, 10), seq(20, 0, 0), log(30)), of(4, 4, 2, data(0, 10), data(1, 20), log(30, 0, 1, 2, 3))} {
		for _, phys := range []int{math.MinInt, -2, -1, 256, 257, math.MaxInt, 10, 20, 30} {
			for _, kind := range slices.Concat(allKinds, oddKinds) {
				for _, block := range []int{-1, 0, 3, 4} {
					got, e := plan.Open(x, step(kind, block), phys)
					refused(t, "Open of "+strconv.Itoa(phys), got, e, api.ErrArg)
				}
			}
		}
	}
}

// puts fails if Put does not make this table, or tells another place.
func puts(t *testing.T, name string, x api.Table, kind, page int, want api.Table, phys, at int) {
	t.Helper()
	got, place, e := plan.Put(x, step(kind), page)
	made(t, name, got, e, want)
	if place != (api.Place{Phys: phys, Page: at}) {
		t.Errorf("%s: it stands at %v", name, place)
	}
	// Of StSeq and StRand it is not said that Block counts.
	for _, block := range oddNumbers {
		other, same, e := plan.Put(x, step(kind, block), page)
		made(t, name+" with a Block", other, e, want)
		if same != place {
			t.Errorf("%s: with a Block it stands at %v", name, same)
		}
	}
}

func TestP54Put(t *testing.T) {
	puts(t, "the first of Seq", of(4, 4, 2, seq(8, 2, 0)), api.StSeq, 8, of(4, 4, 2, seq(8, 2, 1)), 8, 0)
	puts(t, "the last of Seq", of(4, 4, 2, seq(8, 2, 3)), api.StSeq, 11, of(4, 4, 2, seq(8, 2, 4)), 8, 3)
	puts(t, "Seq, that Data has", of(4, 4, 2, data(2, 9, 1), seq(8, 2, 1)), api.StSeq, 9, of(4, 4, 2, data(2, 9, 1), seq(8, 2, 2)), 8, 1)
	puts(t, "Seq, that a log has", of(4, 4, 2, seq(8, 2, 1), log(7, 8, 9, 10, 1), log(6, 0)), api.StSeq, 9,
		of(4, 4, 2, seq(8, 2, 2), log(7, 8, -1, 10, 1), log(6, 0)), 8, 1)
	puts(t, "Seq, that the last log has", of(4, 4, 2, seq(8, 0, 0), log(7, 8, 9, 10, 1), log(6, -1, 0)), api.StSeq, 0,
		of(4, 4, 2, seq(8, 0, 1), log(7, 8, 9, 10, 1), log(6, -1, -1)), 8, 0)
	puts(t, "the first of a log", of(4, 4, 2, log(7)), api.StRand, 5, of(4, 4, 2, log(7, 5)), 7, 0)
	puts(t, "page 0 in a log", of(4, 4, 2, log(7)), api.StRand, 0, of(4, 4, 2, log(7, 0)), 7, 0)
	puts(t, "the last of a log", of(4, 4, 2, log(7, 1, -1, 2)), api.StRand, 15, of(4, 4, 2, log(7, 1, -1, 2, 15)), 7, 3)
	puts(t, "a log that has it", of(4, 4, 2, log(7, 1, 5)), api.StRand, 5, of(4, 4, 2, log(7, 1, -1, 5)), 7, 2)
	puts(t, "a log, another one has it", of(4, 4, 2, log(7, 1, 5, -1, 2), log(6, 3)), api.StRand, 5, of(4, 4, 2, log(7, 1, -1, -1, 2), log(6, 3, 5)), 6, 1)
	puts(t, "a log, that Data and Seq have", of(4, 4, 2, data(1, 9, 1), seq(8, 1, 4), log(7)), api.StRand, 5,
		of(4, 4, 2, data(1, 9, 1), seq(8, 1, 4), log(7, 5)), 7, 0)
	puts(t, "a log, that Seq could go on with", of(4, 4, 2, seq(8, 1, 1), log(7)), api.StRand, 5, of(4, 4, 2, seq(8, 1, 1), log(7, 5)), 7, 0)
}

func TestP54PutRefuses(t *testing.T) {
	for name, c := range map[string]struct {
		x    api.Table
		kind int
		page int
	}{
		"StSeq without a Seq":                   {of(4, 4, 2, log(7)), api.StSeq, 1},
		"StSeq of page 0 without a Seq":         {of(4, 4, 2, log(7)), api.StSeq, 0},
		"StSeq of another block's page":         {of(4, 4, 2, seq(8, 1, 1), log(7)), api.StSeq, 1},
		"StSeq of another block's first page":   {of(4, 4, 2, seq(8, 1, 0), log(7)), api.StSeq, 8},
		"StSeq of a page that Seq has":          {of(4, 4, 2, seq(8, 1, 2), log(7)), api.StSeq, 5},
		"StSeq of a page too far":               {of(4, 4, 2, seq(8, 1, 2), log(7)), api.StSeq, 7},
		"StSeq of a Seq that is full":           {of(4, 4, 2, seq(8, 1, 4), log(7)), api.StSeq, 4},
		"StSeq of the next one of a full Seq":   {of(4, 4, 2, seq(8, 1, 4), log(7)), api.StSeq, 8},
		"StRand without a log":                  {of(4, 4, 2, seq(8, 1, 1)), api.StRand, 5},
		"StRand of a full log":                  {of(4, 4, 2, seq(8, 1, 1), log(7, -1, -1, -1, -1)), api.StRand, 5},
		"StRand of a full log that has it":      {of(4, 4, 2, log(7, 5, -1, -1, -1)), api.StRand, 5},
		"StRand, and the last one of 2 is full": {of(4, 4, 2, log(7, 5, -1, -1, -1), log(8, 1, 2, 3, 4)), api.StRand, 5},
	} {
		got, at, e := plan.Put(c.x, step(c.kind), c.page)
		refused(t, name, got, e, api.ErrStep)
		if at != (api.Place{}) {
			t.Errorf("%s: it stands at %v", name, at)
		}
	}
	for _, kind := range slices.Concat(allKinds, oddKinds) {
		x := of(4, 4, 2, seq(8, 1, 1), log(7))
		if kind != api.StSeq && kind != api.StRand {
			got, at, e := plan.Put(x, step(kind, 1), 5)
			refused(t, "Put by "+strconv.Itoa(kind), got, e, api.ErrStep)
			if at != (api.Place{}) {
				t.Errorf("Put by %d: it stands at %v", kind, at)
			}
		}
		// That there is no such page is told ahead of the step.
		for _, page := range []int{math.MinInt, -1, 16, 17, math.MaxInt} {
			got, at, e := plan.Put(x, step(kind, 1), page)
			refused(t, "Put of "+strconv.Itoa(page), got, e, api.ErrArg)
			if at != (api.Place{}) {
				t.Errorf("Put of %d: it stands at %v", page, at)
			}
		}
	}
}

func TestP54Skip(t *testing.T) {
	for _, block := range oddNumbers {
		got, e := plan.Skip(of(4, 4, 2, log(7)), step(api.StRand, block))
		made(t, "the first one", got, e, of(4, 4, 2, log(7, -1)))
		got, e = plan.Skip(of(4, 4, 2, seq(8, 1, 2), log(7, 1, -1, 5)), step(api.StRand, block))
		made(t, "the last one", got, e, of(4, 4, 2, seq(8, 1, 2), log(7, 1, -1, 5, -1)))
	}
	got, e := plan.Skip(of(4, 4, 2, log(6, 5, 6, 7, 8), log(7, 1)), step(api.StRand))
	made(t, "of the second log", got, e, of(4, 4, 2, log(6, 5, 6, 7, 8), log(7, 1, -1)))
	for _, x := range []api.Table{of(4, 4, 2), of(4, 4, 2, seq(8, 1, 1)), of(4, 4, 2, log(7, -1, -1, -1, -1)), of(4, 4, 2, log(7, 1, -1, -1, -1), log(8, -1, -1, -1, -1))} {
		got, e := plan.Skip(x, step(api.StRand))
		refused(t, "Skip without room", got, e, api.ErrStep)
	}
	for _, kind := range slices.Concat(allKinds, oddKinds) {
		if kind != api.StRand {
			got, e := plan.Skip(of(4, 4, 2, seq(8, 1, 1), log(7)), step(kind, 1))
			refused(t, "Skip by "+strconv.Itoa(kind), got, e, api.ErrStep)
		}
	}
}

func TestP55Fold(t *testing.T) {
	x := rich()
	tells(t, "of Data and logs", plan.Fold(x, 0), copyAt(10, 0, 0), copyAt(30, 0, 1), copyAt(10, 2, 2), copyAt(31, 0, 3))
	tells(t, "of Data, Seq and a log", plan.Fold(x, 1), copyAt(20, 0, 0), copyAt(20, 1, 1), copyAt(30, 2, 2), copyAt(11, 3, 3))
	tells(t, "of a log", plan.Fold(x, 2), copyAt(31, 1, 1))
	tells(t, "of a log, Data has nothing", plan.Fold(x, 3), copyAt(30, 3, 0))
	tells(t, "without copies", plan.Fold(of(4, 4, 2, data(1, 3), log(5, -1, -1)), 1))
	tells(t, "without copies of block 0", plan.Fold(of(4, 4, 2, data(1, 3), log(5, -1, -1)), 0))
	tells(t, "of places 0", plan.Fold(of(4, 1, 1, seq(0, 0, 1)), 0), copyAt(0, 0, 0))
	for _, block := range []int{math.MinInt, -1, 4, 5, math.MaxInt} {
		tells(t, "of no block", plan.Fold(x, block))
	}
}

func TestP55Rest(t *testing.T) {
	tells(t, "behind three", plan.Rest(rich()), copyAt(11, 3, 3))
	tells(t, "without a Seq", plan.Rest(of(4, 4, 2, data(0, 3, 0, 1), log(5, 2, 3))))
	tells(t, "behind none", plan.Rest(of(4, 4, 2, data(0, 3, 0, 1), seq(4, 0, 0), log(5, 2, 1))), copyAt(3, 0, 0), copyAt(5, 1, 1), copyAt(5, 0, 2))
	tells(t, "behind one", plan.Rest(of(4, 4, 2, data(0, 3, 0, 1), seq(4, 0, 1), log(5, 2, 0))), copyAt(3, 1, 1), copyAt(5, 0, 2))
	tells(t, "behind all", plan.Rest(of(4, 4, 2, data(0, 3, 0, 1, 2, 3), seq(4, 0, 4), log(5, 2, 0))))
	tells(t, "of the last block", plan.Rest(of(4, 4, 2, data(3, 3, 2, 3), data(0, 8, 3), seq(4, 3, 3))), copyAt(3, 3, 3))
}

func TestP55Stops(t *testing.T) {
	fold := plan.Fold(rich(), 1)
	want := []api.Copy{copyAt(20, 0, 0), copyAt(20, 1, 1), copyAt(30, 2, 2), copyAt(11, 3, 3)}
	for stop := range 5 {
		var got []api.Copy
		for c := range fold {
			if len(got) == stop {
				break
			}
			got = append(got, c)
		}
		if !slices.Equal(got, want[:stop]) {
			t.Errorf("stopped behind %d: %v", stop, got)
		}
	}
	rest := plan.Rest(of(4, 4, 2, data(0, 3, 0, 1), seq(4, 0, 0), log(5, 2)))
	for _, copies := range []iter.Seq[api.Copy]{fold, rest} {
		calls := 0
		copies(func(api.Copy) bool { calls++; return false })
		if calls != 1 {
			t.Errorf("went on %d times", calls)
		}
	}
	tells(t, "once more", fold, want...)
	tells(t, "and again", fold, want...)
	tells(t, "the rest", rest, copyAt(3, 0, 0), copyAt(3, 1, 1), copyAt(5, 0, 2))
	tells(t, "the rest again", rest, copyAt(3, 0, 0), copyAt(3, 1, 1), copyAt(5, 0, 2))
}

// merges fails if a merge does not make this table, or does not tell these blocks.
func merges(t *testing.T, name string, got api.Table, free []int, e api.Errno, want api.Table, blocks ...int) {
	t.Helper()
	made(t, name, got, e, want)
	if !slices.Equal(free, blocks) {
		t.Errorf("%s: %v, want %v", name, free, blocks)
	}
}

func TestP55Folded(t *testing.T) {
	x := rich()
	without := func(parts ...part) api.Table { return of(4, 4, 3, parts...) }
	got, free, e := plan.Folded(x, 0, 50)
	merges(t, "of Data and two logs", got, free, e, without(data(0, 50, 0, 1, 2, 3), data(1, 11, 1, 3), data(3, 13), seq(20, 1, 3), log(30, -1, -1, 6, 12), log(31, -1, 9)), 10)
	got, free, e = plan.Folded(x, 1, 50)
	merges(t, "of Seq's block", got, free, e, without(data(0, 10, 0, 1, 2, 3), data(1, 50, 0, 1, 2, 3), data(3, 13), log(30, 1, -1, -1, 12), log(31, 3, 9)), 11, 20)
	got, free, e = plan.Folded(x, 2, 0)
	merges(t, "without Data", got, free, e, with(x, data(2, 0, 1), func(x *api.Table) { x.Logs[1].Pages[1] = -1 }))
	got, free, e = plan.Folded(x, 3, 255)
	merges(t, "of Data without pages", got, free, e, with(x, data(3, 255, 0), func(x *api.Table) { x.Logs[0].Pages[3] = -1 }), 13)
	got, free, e = plan.Folded(without(data(1, 3, 0)), 0, 7)
	merges(t, "without copies", got, free, e, without(data(1, 3, 0), data(0, 7)))
	got, free, e = plan.Folded(without(seq(9, 2, 0), data(2, 12, 3)), 2, 7)
	merges(t, "of Seq without a page, above", got, free, e, without(data(2, 7, 3)), 9, 12)
	got, free, e = plan.Folded(without(seq(12, 2, 2), data(2, 9, 3)), 2, 7)
	merges(t, "of Seq, below", got, free, e, without(data(2, 7, 0, 1, 3)), 9, 12)
	got, free, e = plan.Folded(without(seq(12, 0, 2)), 0, 7)
	merges(t, "of Seq alone", got, free, e, without(data(0, 7, 0, 1)), 12)
	got, free, e = plan.Folded(without(seq(12, 1, 2), log(5, -1, 1)), 0, 7)
	merges(t, "of a block beside Seq's", got, free, e, without(data(0, 7, 1), seq(12, 1, 2), log(5, -1, -1)))
}

func TestP55FoldedRefuses(t *testing.T) {
	for _, c := range []struct{ block, phys int }{
		{-1, 50}, {4, 50}, {math.MinInt, 50}, {math.MaxInt, 50},
		{0, -1}, {0, 256}, {0, math.MinInt}, {0, math.MaxInt},
		{0, 10}, {0, 11}, {0, 20}, {0, 30}, {0, 31}, {1, 20}, {1, 11}, {3, 13},
		{-1, -1}, {4, 256}, {4, 10},
	} {
		got, free, e := plan.Folded(rich(), c.block, c.phys)
		refused(t, "Folded", got, e, api.ErrArg)
		if free != nil {
			t.Errorf("Folded(%d, %d) tells %v", c.block, c.phys, free)
		}
	}
}

func TestP55Switched(t *testing.T) {
	got, free, e := plan.Switched(of(4, 4, 3, seq(20, 1, 4)))
	merges(t, "all pages", got, free, e, of(4, 4, 3, data(1, 20, 0, 1, 2, 3)))
	got, free, e = plan.Switched(of(4, 4, 3, data(1, 11, 0, 3), seq(20, 1, 4), log(5, 0, -1, 8)))
	merges(t, "all pages, over Data", got, free, e, of(4, 4, 3, data(1, 20, 0, 1, 2, 3), log(5, 0, -1, 8)), 11)
	got, free, e = plan.Switched(of(4, 4, 3, data(1, 11, 0, 3), seq(20, 1, 2)))
	merges(t, "some pages, over Data", got, free, e, of(4, 4, 3, data(1, 20, 0, 1, 3)), 11)
	got, free, e = plan.Switched(of(4, 4, 3, data(1, 11, 0, 3), seq(20, 1, 2), log(5, -1, 6, 2)))
	merges(t, "some pages, others in a log", got, free, e, of(4, 4, 3, data(1, 20, 0, 1, 2, 3), log(5, -1, -1, 2)), 11)
	got, free, e = plan.Switched(of(4, 4, 3, data(0, 11, 3), seq(0, 0, 0), log(5, 0, 4)))
	merges(t, "no pages", got, free, e, of(4, 4, 3, data(0, 0, 0, 3), log(5, -1, 4)), 11)
	got, free, e = plan.Switched(of(4, 4, 3, seq(20, 3, 0)))
	merges(t, "no pages anywhere", got, free, e, of(4, 4, 3, data(3, 20)))
	for name, x := range map[string]api.Table{
		"without a Seq":                        of(4, 4, 3, data(0, 3, 1), log(5, 2)),
		"without anything":                     of(4, 4, 3),
		"a log has its first page":             of(4, 4, 3, seq(20, 1, 4), log(5, 0, 4)),
		"a log has its last page":              of(4, 4, 3, seq(20, 1, 4), log(5, 7)),
		"a log has the last one of some":       of(4, 4, 3, seq(20, 1, 2), log(5, 5)),
		"the second log has one":               of(4, 4, 3, seq(20, 0, 2), log(5, 5, 6, 7, 8), log(6, -1, 0)),
		"rich, of which a log has Seq's page":  rich(),
		"a log has one of its own, and others": of(4, 4, 3, seq(20, 1, 1), log(5, 7, 6, 5, 4)),
	} {
		got, free, e := plan.Switched(x)
		refused(t, name, got, e, api.ErrStep)
		if free != nil {
			t.Errorf("%s: %v", name, free)
		}
	}
}

func TestP55Dropped(t *testing.T) {
	for name, c := range map[string]struct {
		x, want api.Table
		block   int
	}{
		"a full one":            {of(4, 4, 2, log(5, -1, -1, -1, -1)), of(4, 4, 2), 5},
		"one without pages":     {of(4, 4, 2, log(0)), of(4, 4, 2), 0},
		"one with room":         {of(4, 4, 2, log(255, -1)), of(4, 4, 2), 255},
		"the oldest of two":     {of(4, 4, 2, log(5, -1, -1, -1, -1), log(6, 1)), of(4, 4, 2, log(6, 1)), 5},
		"the oldest of three":   {of(4, 4, 3, log(5, -1, -1, -1, -1), log(6, 1, 2, 3, 4), log(7)), of(4, 4, 3, log(6, 1, 2, 3, 4), log(7)), 5},
		"beside Data and a Seq": {of(4, 4, 2, data(1, 1, 1), seq(2, 2, 2), log(5)), of(4, 4, 2, data(1, 1, 1), seq(2, 2, 2)), 5},
	} {
		got, block, e := plan.Dropped(c.x)
		made(t, name, got, e, c.want)
		if block != c.block {
			t.Errorf("%s: %d", name, block)
		}
	}
	for name, x := range map[string]api.Table{
		"without a log":             of(4, 4, 2, data(1, 1, 1), seq(2, 2, 2)),
		"it has page 0":             of(4, 4, 2, log(5, 0)),
		"its last page is left":     of(4, 4, 2, log(5, -1, -1, -1, 9)),
		"the oldest of two has one": of(4, 4, 2, log(5, -1, 3, -1, -1), log(6)),
		"rich":                      rich(),
	} {
		got, block, e := plan.Dropped(x)
		refused(t, name, got, e, api.ErrStep)
		if block != 0 {
			t.Errorf("%s: %d", name, block)
		}
	}
}

// The row of the chapter's example.
func TestExample(t *testing.T) {
	x := of(4, 2, 1)
	fresh := 10
	x = follow(t, x, 0, &fresh, api.StOpenSeq, api.StSeq)
	x = follow(t, x, 1, &fresh, api.StSeq)
	x = follow(t, x, 3, &fresh, api.StOpenRand, api.StRand)
	if !equal(x, of(4, 2, 1, seq(10, 0, 2), log(11, 3))) {
		t.Error(x)
	}
}

// follow writes a page, and fails if it does not take these kinds of steps, of which none merges.
func follow(t *testing.T, x api.Table, page int, fresh *int, kinds ...int) api.Table {
	t.Helper()
	for n, kind := range kinds {
		s, e := plan.Want(x, page)
		if e != api.OK || s.Kind != kind {
			t.Fatalf("page %d: %v, %v, want %d", page, s, e, kind)
		}
		if n == len(kinds)-1 {
			x, _, e = plan.Put(x, s, page)
		} else {
			x, e = plan.Open(x, s, *fresh)
			*fresh++
		}
		is(t, "a step", e, api.OK)
	}
	return x
}

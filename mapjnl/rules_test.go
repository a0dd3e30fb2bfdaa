package mapjnl_test

import (
	"bytes"
	"math"
	"slices"
	"testing"

	"slipway/api"
	"slipway/mapjnl"
)

var oddNumbers = []int{math.MinInt, -257, -1, 0, 1, 15, 16, 63, 64, 65, 255, 256, 257, math.MaxInt}

// roomy is a list with something behind its end, so that an append to what was handed in is seen, too.
func roomy[T any](l []T, behind T) []T {
	return append(append(make([]T, 0, len(l)+2), l...), behind, behind)[:len(l)]
}

// untouched tells whether nothing was written to a roomy list, nor behind it.
func untouched[T comparable](l, was []T, behind T) bool {
	return slices.Equal(l, was) && l[:len(l)+1][len(l)] == behind && l[:len(l)+2][len(l)+1] == behind
}

// given are arguments of all kinds, with room behind each list.
type given struct {
	s, other api.MapState
	part     api.MapPage
	pages    []api.MapPage
	records  []api.MapRecord
	bytes    []byte
}

func roomyState(s api.MapState) api.MapState {
	return api.MapState{Bad: roomy(s.Bad, true), Wear: roomy(s.Wear, 77), Seq: s.Seq}
}

func roomyPage(p api.MapPage) api.MapPage {
	p.Bad, p.Wear, p.Records = roomy(p.Bad, true), roomy(p.Wear, 77), roomy(p.Records, isBad(77))
	return p
}

func give() given {
	s := of(70, bad(3, 69), wear(1, 5), wear(69, 7), seq(9))
	other := of(70, bad(3, 4, 69), wear(1, 6), wear(2, 8), wear(69, 7), seq(10))
	records := []api.MapRecord{isWorn(2, 4), isBad(5), isUsed(11)}
	part := partPage(3, 1, of(6, bad(5), wear(5, 7), seq(9)))
	g := given{s: roomyState(s), other: roomyState(other), part: roomyPage(part), records: roomy(records, isBad(77)), bytes: roomy(bytesOf(part), 77)}
	g.pages = append(g.pages, roomyPage(part), roomyPage(recordPage(4, records...)), roomyPage(partPage(2, 0, of(64, bad(3), wear(1, 5)))))
	return g
}

func sameState(a, b api.MapState) bool {
	return untouched(a.Bad, b.Bad, true) && untouched(a.Wear, b.Wear, 77) && a.Seq == b.Seq
}

func samePage(a, b api.MapPage) bool {
	return equalPages(a, b) && untouched(a.Bad, b.Bad, true) && untouched(a.Wear, b.Wear, 77) && untouched(a.Records, b.Records, isBad(77))
}

// intact fails if something was written to what was handed in.
func (g given) intact(t *testing.T, name string) {
	t.Helper()
	was := give()
	if !sameState(g.s, was.s) || !sameState(g.other, was.other) || !samePage(g.part, was.part) ||
		!untouched(g.records, was.records, isBad(77)) || !untouched(g.bytes, was.bytes, 77) ||
		len(g.pages) != len(was.pages) || !slices.EqualFunc(g.pages, was.pages, samePage) {
		t.Errorf("%s wrote to what was handed in", name)
	}
}

// scribble writes over all that was handed in.
func (g given) scribble() {
	answer{states: []api.MapState{g.s, g.other}, pages: append([]api.MapPage{g.part}, g.pages...), records: g.records, bytes: g.bytes}.scribble()
	clear(g.pages)
}

// answer is all that a call may answer.
type answer struct {
	states  []api.MapState
	pages   []api.MapPage
	records []api.MapRecord
	bytes   []byte
	gen     int64
	e       api.Errno
}

func (a answer) scribble() {
	for _, s := range a.states {
		scribbleLists(s.Bad, s.Wear, nil)
	}
	for i, p := range a.pages {
		scribbleLists(p.Bad, p.Wear, p.Records)
		a.pages[i].Gen = 99
	}
	scribbleLists(nil, nil, a.records)
	for i := range a.bytes {
		a.bytes[i] = 99
	}
}

func scribbleLists(bad []bool, wear []int64, records []api.MapRecord) {
	for i := range bad {
		bad[i] = !bad[i]
	}
	for i := range wear {
		wear[i] = 99
	}
	for i := range records {
		records[i] = isWorn(99, 99)
	}
}

func (a answer) copy() answer {
	b := answer{records: slices.Clone(a.records), bytes: slices.Clone(a.bytes), gen: a.gen, e: a.e}
	for _, s := range a.states {
		b.states = append(b.states, copyOf(s))
	}
	for _, p := range a.pages {
		b.pages = append(b.pages, copyOfPage(p))
	}
	return b
}

func (a answer) equal(b answer) bool {
	return slices.EqualFunc(a.states, b.states, equal) && slices.EqualFunc(a.pages, b.pages, equalPages) &&
		slices.Equal(a.records, b.records) && bytes.Equal(a.bytes, b.bytes) && a.gen == b.gen && a.e == b.e
}

// calls are those that answer lists.
func calls() map[string]func(g given) answer {
	state := func(s api.MapState, e api.Errno) answer { return answer{states: []api.MapState{s}, e: e} }
	page := func(p api.MapPage, e api.Errno) answer { return answer{pages: []api.MapPage{p}, e: e} }
	return map[string]func(g given) answer{
		"New":           func(g given) answer { return state(mapjnl.New(16)) },
		"Join":          func(g given) answer { return state(mapjnl.Join(g.s, g.other)) },
		"Join, itself":  func(g given) answer { return state(mapjnl.Join(g.s, g.s)) },
		"Join, covered": func(g given) answer { return state(mapjnl.Join(g.other, g.s)) },
		"Apply":         func(g given) answer { return state(mapjnl.Apply(g.s, g.records...)) },
		"Apply, none":   func(g given) answer { return state(mapjnl.Apply(g.s)) },
		"Diff":          func(g given) answer { l, e := mapjnl.Diff(g.s, g.other); return answer{records: l, e: e} },
		"Checkpoint":    func(g given) answer { l, e := mapjnl.Checkpoint(g.s, 5); return answer{pages: l, e: e} },
		"Records":       func(g given) answer { return page(mapjnl.Records(5, g.records...)) },
		"Bytes":         func(g given) answer { b, e := mapjnl.Bytes(g.part); return answer{bytes: b, e: e} },
		"Bytes, records": func(g given) answer {
			b, e := mapjnl.Bytes(g.pages[1])
			return answer{bytes: b, e: e}
		},
		"Parse":          func(g given) answer { return page(mapjnl.Parse(g.bytes)) },
		"Parse, records": func(g given) answer { return page(mapjnl.Parse(bytesOf(g.pages[1]))) },
		"Replay": func(g given) answer {
			s, gen, e := mapjnl.Replay(70, g.pages...)
			return answer{states: []api.MapState{s}, gen: gen, e: e}
		},
	}
}

func TestR1NoPanic(t *testing.T) {
	states := badStates()
	states["new"], states["the greatest"] = of(16), of(256, bad(255), seq(api.MaxSeq))
	pages := rightPages()
	for _, p := range wrongPages() {
		pages = append(pages, p)
	}
	for _, a := range states {
		for _, b := range states {
			mapjnl.Join(a, b)
			mapjnl.Covers(a, b)
			mapjnl.Diff(a, b)
			mapjnl.Same(a, b)
		}
		for _, l := range [][]api.MapRecord{nil, badRecords, goodRecords} {
			mapjnl.Apply(a, l...)
			for _, r := range l {
				mapjnl.Apply(a, r)
			}
		}
		for _, gen := range slices.Concat(goodGens, badGens) {
			mapjnl.Checkpoint(a, gen)
			mapjnl.Records(gen, badRecords...)
		}
	}
	for _, p := range pages {
		mapjnl.Bytes(p)
		mapjnl.SamePage(p, pages[0])
		for _, n := range oddNumbers {
			mapjnl.Replay(n, p)
		}
	}
	for _, n := range oddNumbers {
		mapjnl.Replay(n, pages...)
		_, e := mapjnl.New(n)
		if (e == api.OK) != (mapjnl.Parts(n) > 0) {
			t.Error("New, Parts", n, e)
		}
	}
	var s stream = 1
	for range 2000 {
		b := make([]byte, 250+s.below(10))
		for i := range b {
			b[i] = byte(s.next())
		}
		b[0] = byte(s.below(3))
		mapjnl.Parse(b)
	}
}

func TestR3HandedIn(t *testing.T) {
	for name, call := range calls() {
		g := give()
		got := call(g)
		is(t, name, got.e, api.OK)
		g.intact(t, name)
		was := got.copy()
		g.scribble()
		if !got.equal(was) {
			t.Errorf("%s: the answer hangs on what was handed in", name)
		}
	}
	for name, look := range map[string]func(g given){
		"Check":               func(g given) { mapjnl.Check(g.s) },
		"Covers":              func(g given) { mapjnl.Covers(g.s, g.other); mapjnl.Covers(g.other, g.s) },
		"Same":                func(g given) { mapjnl.Same(g.s, g.other) },
		"SamePage":            func(g given) { mapjnl.SamePage(g.part, g.pages[2]); mapjnl.SamePage(g.pages[1], g.part) },
		"Join, in vain":       func(g given) { mapjnl.Join(g.s, of(16)) },
		"Apply, in vain":      func(g given) { mapjnl.Apply(g.s, append(slices.Clone(g.records), isBad(70))...) },
		"Diff, in vain":       func(g given) { mapjnl.Diff(g.other, g.s) },
		"Checkpoint, in vain": func(g given) { mapjnl.Checkpoint(g.s, -1) },
		"Records, in vain":    func(g given) { mapjnl.Records(-1, g.records...) },
		"Bytes, in vain":      func(g given) { p := g.part; p.Part = 4; mapjnl.Bytes(p) },
		"Parse, in vain":      func(g given) { mapjnl.Parse(g.bytes[1:]); mapjnl.Parse(g.bytes[:255]) },
		"Replay, in vain":     func(g given) { mapjnl.Replay(0, g.pages...) },
		"Replay of fewer":     func(g given) { mapjnl.Replay(16, g.pages...) },
	} {
		g := give()
		look(g)
		g.intact(t, name)
	}
}

// What is answered is nobody's else: neither the argument's, nor another answer's, nor do two lists of one share any.
func TestR3Answers(t *testing.T) {
	for name, call := range calls() {
		g := give()
		first, second := call(g), call(g)
		was := second.copy()
		first.scribble()
		g.intact(t, name+"'s owner")
		if !second.equal(was) {
			t.Errorf("%s: two answers share memory", name)
		}
		if third := call(g); !third.equal(was) {
			t.Errorf("%s: an answer was kept", name)
		}
		apart(t, name, second)
	}
}

// apart fails if two lists of an answer share memory: what is appended to one is seen in another.
func apart(t *testing.T, name string, a answer) {
	t.Helper()
	was := a.copy()
	for _, s := range a.states {
		_, _ = append(s.Bad, true, true, true), append(s.Wear, 99, 99, 99)
	}
	for _, p := range a.pages {
		_, _, _ = append(p.Bad, true, true, true), append(p.Wear, 99, 99, 99), append(p.Records, isWorn(99, 99), isWorn(99, 99))
	}
	if !a.equal(was) {
		t.Errorf("%s: two lists of the answer share memory", name)
	}
}

// R4: empty and nil lists are the same.
func TestR4(t *testing.T) {
	s := of(16, bad(3), seq(1))
	x, e := mapjnl.Apply(s, []api.MapRecord{}...)
	made(t, "Apply", x, e, s)
	p, e := mapjnl.Records(3, []api.MapRecord{}...)
	madePage(t, "Records", p, e, recordPage(3))
	x, gen, e := mapjnl.Replay(16, []api.MapPage{}...)
	made(t, "Replay", x, e, of(16))
	if gen != 0 {
		t.Error("Replay", gen)
	}
	for name, p := range map[string]api.MapPage{"a part": partPage(5, 1, s), "records": recordPage(5, isBad(3)), "no records": recordPage(5)} {
		nils, empty := copyOfPage(p), copyOfPage(p)
		if len(p.Bad) == 0 {
			nils.Bad, nils.Wear = nil, nil
			empty.Bad, empty.Wear = []bool{}, []int64{}
		}
		if len(p.Records) == 0 {
			nils.Records, empty.Records = nil, []api.MapRecord{}
		}
		a, e := mapjnl.Bytes(nils)
		b, f := mapjnl.Bytes(empty)
		if e != api.OK || f != api.OK || !bytes.Equal(a, b) || !mapjnl.SamePage(nils, empty) {
			t.Error(name, e, f)
		}
		x, _, _ := mapjnl.Replay(100, nils)
		y, _, _ := mapjnl.Replay(100, empty)
		if !mapjnl.Same(x, y) {
			t.Error(name, x, y)
		}
	}
	noPage(t, "nil", nil)
	noPage(t, "empty", []byte{})
	is(t, "Check", mapjnl.Check(api.MapState{Bad: []bool{}, Wear: []int64{}}), api.ErrState)
}

func TestR6(t *testing.T) {
	run := func() []byte {
		var s stream = 6
		var said []byte
		x := of(70)
		for range 200 {
			x, _ = mapjnl.Apply(x, s.records(70, 5)...)
			pages, _ := mapjnl.Checkpoint(x, 1)
			for _, p := range pages {
				b, _ := mapjnl.Bytes(p)
				said = append(said, b...)
			}
		}
		return said
	}
	if !bytes.Equal(run(), run()) {
		t.Error("the same calls did not answer the same")
	}
}

// Lists that are far too long are refused in time, and long ones that may be are gone through once.
func TestTheBound(t *testing.T) {
	const n = 1 << 22
	long := api.MapState{Bad: make([]bool, n), Wear: make([]int64, n)}
	is(t, "Check", mapjnl.Check(long), api.ErrState)
	_, e := mapjnl.Join(long, long)
	is(t, "Join", e, api.ErrState)
	_, e = mapjnl.Bytes(partPage(0, 0, long))
	is(t, "Bytes", e, api.ErrPage)
	_, e = mapjnl.Parse(make([]byte, n))
	is(t, "Parse", e, api.ErrPage)
	records := slices.Repeat([]api.MapRecord{isWorn(3, 5)}, n)
	x, e := mapjnl.Apply(of(256), records...)
	made(t, "Apply", x, e, of(256, wear(3, 5)))
	_, e = mapjnl.Records(0, records...)
	is(t, "Records", e, api.ErrLong)
	x, gen, e := mapjnl.Replay(256, slices.Repeat([]api.MapPage{recordPage(7, records...), recordPage(5, isBad(1))}, 1<<19)...)
	made(t, "Replay", x, e, of(256, bad(1)))
	if gen != 5 {
		t.Error("Replay", gen)
	}
}

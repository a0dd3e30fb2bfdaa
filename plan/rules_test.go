package plan_test

import (
	"math"
	"slices"
	"testing"

	"slipway/api"
	"slipway/plan"
)

// guarded is a table with room behind each list, so that an append to what was handed in is seen, too.
type guarded struct {
	data  []int
	have  []bool
	logs  []api.RandLog
	pages [][]int
	was   api.Table
}

func guard(x api.Table) (*guarded, api.Table) {
	g := &guarded{was: copyOf(x)}
	g.data = append(append([]int{}, x.Data...), 77, 77)
	g.have = append(append([]bool{}, x.Have...), true, true)
	for _, l := range x.Logs {
		g.pages = append(g.pages, append(append([]int{}, l.Pages...), 77, 77))
		n := len(l.Pages)
		g.logs = append(g.logs, api.RandLog{Phys: l.Phys, Pages: g.pages[len(g.pages)-1][:n]})
	}
	g.logs = append(g.logs, api.RandLog{Phys: 77}, api.RandLog{Phys: 77})
	x.Data, x.Have, x.Logs = g.data[:len(x.Data)], g.have[:len(x.Have)], g.logs[:len(x.Logs)]
	return g, x
}

// intact fails if something was written to what was handed in.
func (g *guarded) intact(t *testing.T, name string) {
	t.Helper()
	ok := slices.Equal(g.data, append(slices.Clone(g.was.Data), 77, 77)) && slices.Equal(g.have, append(slices.Clone(g.was.Have), true, true))
	for i, l := range g.logs {
		switch {
		case i >= len(g.was.Logs):
			ok = ok && l.Phys == 77 && l.Pages == nil
		default:
			ok = ok && l.Phys == g.was.Logs[i].Phys && slices.Equal(l.Pages, g.was.Logs[i].Pages) &&
				slices.Equal(g.pages[i], append(slices.Clone(g.was.Logs[i].Pages), 77, 77))
		}
	}
	if !ok {
		t.Errorf("%s wrote to what was handed in: %v %v %v", name, g.data, g.have, g.logs)
	}
}

// scribble writes over all that a table has.
func scribble(x api.Table) {
	for i := range x.Data {
		x.Data[i] = 99
	}
	for i := range x.Have {
		x.Have[i] = !x.Have[i]
	}
	for i := range x.Logs {
		for j := range x.Logs[i].Pages {
			x.Logs[i].Pages[j] = 99
		}
		x.Logs[i] = api.RandLog{Phys: 99}
	}
}

// answer is all that a call that makes a table answers.
type answer struct {
	x    api.Table
	free []int
}

// changes are the calls that make a table of one like `busy`, all without an error.
func changes() map[string]func(x api.Table) (answer, api.Errno) {
	return map[string]func(x api.Table) (answer, api.Errno){
		"Open": func(x api.Table) (answer, api.Errno) {
			y, e := plan.Open(x, step(api.StOpenRand), 50)
			return answer{y, nil}, e
		},
		"Put in Seq": func(x api.Table) (answer, api.Errno) {
			y, _, e := plan.Put(x, step(api.StSeq), 7)
			return answer{y, nil}, e
		},
		"Folded":    func(x api.Table) (answer, api.Errno) { y, l, e := plan.Folded(x, 1, 50); return answer{y, l}, e },
		"Folded, 0": func(x api.Table) (answer, api.Errno) { y, l, e := plan.Folded(x, 0, 50); return answer{y, l}, e },
		"Switched":  func(x api.Table) (answer, api.Errno) { y, l, e := plan.Switched(x); return answer{y, l}, e },
		"Dropped":   func(x api.Table) (answer, api.Errno) { y, _, e := plan.Dropped(x); return answer{y, nil}, e },
		"Clone":     func(x api.Table) (answer, api.Errno) { return answer{plan.Clone(x), nil}, api.OK },
	}
}

// roomyChanges are those of a table like `busy` whose last log has room.
func roomyChanges() map[string]func(x api.Table) (answer, api.Errno) {
	return map[string]func(x api.Table) (answer, api.Errno){
		"Put in a log": func(x api.Table) (answer, api.Errno) {
			y, _, e := plan.Put(x, step(api.StRand), 9)
			return answer{y, nil}, e
		},
		"Skip": func(x api.Table) (answer, api.Errno) {
			y, e := plan.Skip(x, step(api.StRand))
			return answer{y, nil}, e
		},
	}
}

func busy() api.Table {
	return of(4, 4, 3, data(0, 10, 0, 1, 2, 3), data(1, 11, 1, 3), seq(20, 1, 3), log(30, -1, -1, -1, -1), log(31, 3, 9, 7, 2))
}

func busyWithRoom() api.Table { return with(busy(), log(32, 12)) }

// each hands all changes to look, with the table that they are for.
func each(look func(name string, x api.Table, call func(api.Table) (answer, api.Errno))) {
	for name, call := range changes() {
		look(name, busy(), call)
	}
	for name, call := range roomyChanges() {
		look(name, busyWithRoom(), call)
	}
}

func equalAnswers(a, b answer) bool { return equal(a.x, b.x) && slices.Equal(a.free, b.free) }

func copyOfAnswer(a answer) answer { return answer{copyOf(a.x), slices.Clone(a.free)} }

func scribbleAnswer(a answer) {
	scribble(a.x)
	for i := range a.free {
		a.free[i] = 99
	}
}

func TestR1NoPanic(t *testing.T) {
	tables := badTables()
	tables["the least"], tables["rich"], tables["the greatest"] = of(4, 1, 1), rich(), of(32, 256, 8)
	for _, x := range tables {
		for _, n := range oddNumbers {
			plan.Where(x, n)
			plan.Want(x, n)
			for _, kind := range slices.Concat(allKinds, oddKinds) {
				plan.Open(x, step(kind, n), 50)
				plan.Open(x, step(kind, 0), n)
				plan.Put(x, step(kind, n), n)
				plan.Skip(x, step(kind, n))
			}
			for range plan.Fold(x, n) {
			}
			plan.Folded(x, n, 50)
			plan.Folded(x, 0, n)
		}
		for range plan.Rest(x) {
		}
		plan.Switched(x)
		plan.Dropped(x)
		plan.Used(x)
		plan.Same(x, x)
		plan.Clone(x)
	}
	for _, a := range oddNumbers {
		for _, b := range oddNumbers {
			for _, c := range oddNumbers {
				x, e := plan.New(a, b, c)
				if (e == api.OK) != (plan.Check(x) == api.OK) {
					t.Fatal("New", a, b, c, e)
				}
				// Sizes that no list has, whatever they come to when they are multiplied.
				is(t, "Check of sizes alone", plan.Check(api.Table{Pages: a, Logical: b, K: c, Seq: api.SeqLog{Phys: -1}}), api.ErrTable)
			}
		}
	}
	many := of(4, 1, 1, seq(3, math.MaxInt, math.MaxInt), log(math.MinInt, math.MaxInt, math.MinInt))
	is(t, "great numbers", plan.Check(many), api.ErrTable)
}

func TestR3HandedIn(t *testing.T) {
	each(func(name string, x api.Table, call func(api.Table) (answer, api.Errno)) {
		g, in := guard(x)
		got, e := call(in)
		is(t, name, e, api.OK)
		g.intact(t, name)
		was := copyOfAnswer(got)
		scribble(in)
		if !equalAnswers(got, was) {
			t.Errorf("%s: the answer hangs on what was handed in", name)
		}
	})
	for name, look := range map[string]func(x api.Table){
		"Check":             func(x api.Table) { plan.Check(x) },
		"Where":             func(x api.Table) { plan.Where(x, 9) },
		"Want":              func(x api.Table) { plan.Want(x, 9); plan.Want(x, 0) },
		"Fold":              func(x api.Table) { tells(t, "Fold", plan.Fold(x, 2), copyAt(31, 1, 1)) },
		"Rest":              func(x api.Table) { tells(t, "Rest", plan.Rest(x), copyAt(31, 2, 3)) },
		"Used":              func(x api.Table) { plan.Used(x) },
		"Same":              func(x api.Table) { plan.Same(x, rich()); plan.Same(rich(), x) },
		"Open, in vain":     func(x api.Table) { plan.Open(x, step(api.StOpenSeq), 50) },
		"Put, in vain":      func(x api.Table) { plan.Put(x, step(api.StRand), 9); plan.Put(x, step(api.StSeq), 9) },
		"Skip, in vain":     func(x api.Table) { plan.Skip(x, step(api.StRand)) },
		"Folded, in vain":   func(x api.Table) { plan.Folded(x, 1, 20) },
		"Switched, in vain": func(x api.Table) { x.Seq.Used = 4; plan.Switched(x) },
		"Dropped, in vain":  func(x api.Table) { x.Logs = x.Logs[1:]; plan.Dropped(x) },
	} {
		g, x := guard(busy())
		look(x)
		g.intact(t, name)
	}
	for name, x := range badTables() {
		g, in := guard(x)
		plan.Check(in)
		plan.Used(in)
		plan.Clone(in)
		plan.Folded(in, 0, 50)
		plan.Put(in, step(api.StRand), 0)
		g.intact(t, name)
	}
}

// What is answered is nobody's else: neither the argument's, nor another answer's, nor do two lists of one share any.
func TestR3Answers(t *testing.T) {
	each(func(name string, x api.Table, call func(api.Table) (answer, api.Errno)) {
		g, in := guard(x)
		first, _ := call(in)
		second, _ := call(in)
		was := copyOfAnswer(second)
		scribbleAnswer(first)
		g.intact(t, name+"'s owner")
		if !equalAnswers(second, was) {
			t.Errorf("%s: two answers share memory", name)
		}
		third, _ := call(in)
		if !equalAnswers(third, was) {
			t.Errorf("%s: an answer was kept", name)
		}
		apart(t, name, second)
	})
	first, _ := plan.New(4, 2, 1)
	second, _ := plan.New(4, 2, 1)
	scribble(first)
	third, _ := plan.New(4, 2, 1)
	if !equal(second, of(4, 2, 1)) || !equal(third, of(4, 2, 1)) {
		t.Error("New: two answers share memory")
	}
	scribble(plan.Clone(api.Table{}))
	if !equal(plan.Clone(api.Table{}), of(4, 1, 1)) {
		t.Error("Clone: an answer was kept")
	}
	x := busy()
	l := plan.Used(x)
	for i := range l {
		l[i] = 99
	}
	if !equal(x, busy()) || !slices.Equal(plan.Used(x), []int{10, 11, 20, 30, 31}) {
		t.Error("Used answers what was handed in, or kept it")
	}
}

// apart fails if two lists of an answer share memory: what is written to one, or appended to it, is seen in another.
func apart(t *testing.T, name string, a answer) {
	t.Helper()
	was := copyOfAnswer(a)
	_ = append(a.x.Data, 99, 99, 99, 99)
	_ = append(a.x.Have, true, true, true, true)
	_ = append(a.free, 99, 99, 99, 99)
	for _, l := range a.x.Logs {
		_ = append(l.Pages, 99, 99, 99, 99)
	}
	if !equalAnswers(a, was) {
		t.Errorf("%s: two lists of the answer share memory", name)
	}
}

// An iterator tells what was there when it was asked for.
func TestR3Iterators(t *testing.T) {
	x := rich()
	fold, rest := plan.Fold(x, 1), plan.Rest(x)
	wantFold := []api.Copy{copyAt(20, 0, 0), copyAt(20, 1, 1), copyAt(30, 2, 2), copyAt(11, 3, 3)}
	wantRest := []api.Copy{copyAt(11, 3, 3)}
	x.Logs[0].Pages[2], x.Have[7], x.Data[1] = -1, false, 99
	tells(t, "Fold behind a change", fold, wantFold...)
	tells(t, "Rest behind a change", rest, wantRest...)
	tells(t, "Fold asked for anew", plan.Fold(x, 1), copyAt(20, 0, 0), copyAt(20, 1, 1), copyAt(20, 2, 2))
	tells(t, "Rest asked for anew", plan.Rest(x))
	var got []api.Copy
	for c := range fold {
		got = append(got, c)
		x.Logs[0].Pages[0] = 5
		tells(t, "within another range", fold, wantFold...)
	}
	if !slices.Equal(got, wantFold) {
		t.Error("in the midst of a change:", got)
	}
	scribble(x)
	tells(t, "Fold of a table that may not be any more", fold, wantFold...)
	tells(t, "Rest of a table that may not be any more", rest, wantRest...)
	// Nor does it begin to tell what may be only now.
	broken := rich()
	broken.Logs[0].Pages[0] = 99
	fold, rest = plan.Fold(broken, 1), plan.Rest(broken)
	broken.Logs[0].Pages[0] = 1
	tells(t, "Fold of a table that could not be", fold)
	tells(t, "Rest of a table that could not be", rest)
}

func TestR4EmptyIsNil(t *testing.T) {
	none, empty := of(4, 2, 2), of(4, 2, 2)
	none.Logs, empty.Logs = nil, []api.RandLog{}
	a, e := plan.Open(none, step(api.StOpenRand), 3)
	b, f := plan.Open(empty, step(api.StOpenRand), 3)
	if e != api.OK || f != api.OK || !equal(a, b) {
		t.Error("Open", a, e, b, f)
	}
	a.Logs[0].Pages, b.Logs[0].Pages = nil, []int{}
	c, _, e := plan.Put(a, step(api.StRand), 1)
	d, _, f := plan.Put(b, step(api.StRand), 1)
	if e != api.OK || f != api.OK || !equal(c, d) {
		t.Error("Put", c, e, d, f)
	}
	is(t, "Check of nil", plan.Check(api.Table{}), api.ErrTable)
	is(t, "Check of empty", plan.Check(api.Table{Data: []int{}, Have: []bool{}, Logs: []api.RandLog{}}), api.ErrTable)
}

func TestR6(t *testing.T) {
	run := func() []int {
		var s stream = 6
		var said []int
		x := of(4, 5, 2)
		c := newChip(x, nil)
		for n := range 300 {
			var kinds []int
			x, kinds = write(t, x, c, s.below(20), n+1)
			said = append(append(said, kinds...), plan.Used(x)...)
		}
		return said
	}
	if !slices.Equal(run(), run()) {
		t.Error("the same calls did not answer the same")
	}
}

// Lists that are far too long are refused in time.
func TestTheBound(t *testing.T) {
	const n = 1 << 22
	long := of(4, 4, 3)
	long.Data = slices.Repeat([]int{-1}, n)
	is(t, "data", plan.Check(long), api.ErrTable)
	long = of(4, 4, 3)
	long.Have = make([]bool, n)
	is(t, "have", plan.Check(long), api.ErrTable)
	is(t, "pages", plan.Check(of(4, 4, 3, log(1, slices.Repeat([]int{-1}, n)...))), api.ErrTable)
	long = of(4, 4, 3)
	long.Logs = make([]api.RandLog, n)
	is(t, "logs", plan.Check(long), api.ErrTable)
	if !equal(plan.Clone(long), of(4, 1, 1)) || len(plan.Used(long)) != 0 {
		t.Error("Clone, Used")
	}
}

package layout_test

import (
	"bytes"
	"math"
	"slices"
	"strconv"
	"testing"
	"time"

	"slipway/api"
	"slipway/layout"
)

var oddNumbers = []int{math.MinInt, math.MinInt + 1, math.MinInt32, -8192, -129, -128, -1, 0, 1, 15, 16, 17, 24, 25, 64, 65, 127, 128, 129, 255, 256, 300, 8191, 8192, 8193, 65535, 65536, math.MaxInt32, 1 << 32, math.MaxInt - 1, math.MaxInt}

// Whatever numbers are handed in: each call ends, none panics, and with an error all else is zero.
func TestR1AndR2OfNumbers(t *testing.T) {
	for _, a := range oddNumbers {
		for _, b := range oddNumbers {
			s := shape(a, b)
			planned, e := layout.Plan(a, b)
			is(t, "Plan", planned == api.Shape{}, e != api.OK)
			is(t, "Groups", layout.Groups(s) > 0, layout.Check(s) == api.OK)
			is(t, "Descs", layout.Descs(s) > 0, layout.Check(s) == api.OK)
			is(t, "Journal", layout.Journal(s) > 0, layout.Check(s) == api.OK)
			is(t, "Inodes", layout.Inodes(s) > 0, layout.Check(s) == api.OK)
			is(t, "Capacity", layout.Capacity(s) > 0, layout.Check(s) == api.OK)
			for range layout.All(s) {
			}
			for _, n := range oddNumbers {
				oneNumber(t, s, n)
			}
		}
	}
}

func oneNumber(t *testing.T, s api.Shape, n int) {
	t.Helper()
	g, e := layout.Group(s, n)
	is(t, "Group", g == api.Group{}, e != api.OK)
	is(t, "Kind", layout.Kind(s, n) > 0, layout.Check(s) == api.OK)
	of, ok := layout.GroupOf(s, n)
	is(t, "GroupOf", ok, layout.Check(s) == api.OK && n >= 0 && n < s.Blocks)
	is(t, "GroupOf", !ok && of != 0, false)
	block, at, e := layout.InodeAt(s, n)
	is(t, "InodeAt", block == 0, e != api.OK)
	is(t, "InodeAt", e != api.OK && at != 0, false)
	b, e := layout.EncodeSuper(super(s, n, true, int64(n)))
	is(t, "EncodeSuper", b == nil, e != api.OK)
}

func TestR1AndR2OfBytes(t *testing.T) {
	var s stream = 21
	for range 3000 {
		b := make([]byte, 248+s.below(16))
		for i := range b {
			if s.below(3) == 0 {
				b[i] = byte(s.next())
			}
		}
		for _, b := range [][]byte{b, sealed(b[:s.below(240)]...)} {
			x, e := layout.DecodeSuper(b)
			is(t, "DecodeSuper", x == api.Super{}, e != api.OK)
			for _, n := range oddNumbers {
				l, e := layout.DecodeDescs(b, n)
				is(t, "DecodeDescs", e != api.OK && l != nil, false)
			}
		}
	}
	for _, a := range oddNumbers {
		for _, many := range []int{1, 16, 17} {
			l := descs(many, api.Desc{Blocks: a, Inodes: a, Dirs: a})
			b, e := layout.EncodeDescs(l...)
			is(t, "EncodeDescs of "+strconv.Itoa(a), b == nil, e != api.OK)
		}
	}
}

// What is handed in is not written to, nor what stands behind it.
func TestR3HandedIn(t *testing.T) {
	for _, b := range [][]byte{goodFields().bytes(), sealed(1, 2, 3), descBytes(descs(3, api.Desc{Blocks: 9})...), {1, 2}, nil} {
		whole := append(slices.Clone(b), 0x5a, 0x5a, 0x5a, 0x5a)
		was := slices.Clone(whole)
		layout.DecodeSuper(whole[:len(b)])
		for n := range 18 {
			layout.DecodeDescs(whole[:len(b)], n)
		}
		if !bytes.Equal(whole, was) {
			t.Errorf("% x became % x", was, whole)
		}
	}
	var s stream = 22
	for many := range 20 {
		whole := s.descs(many + 2)
		if many == 5 {
			whole[4].Dirs = -1
		}
		was := slices.Clone(whole)
		layout.EncodeDescs(whole[:many]...)
		if !slices.Equal(whole, was) {
			t.Errorf("%v became %v", was, whole)
		}
	}
}

// What was handed in is not kept: whoever changes it behind a call changes no answer.
func TestR3NotKept(t *testing.T) {
	l := descs(16, api.Desc{Blocks: 1, Inodes: 2, Dirs: 3})
	b, _ := layout.EncodeDescs(l...)
	want := slices.Clone(b)
	got, _ := layout.DecodeDescs(b, 16)
	clear(l)
	if !bytes.Equal(b, want) {
		t.Error("EncodeDescs keeps what was handed in")
	}
	clear(b)
	if !slices.Equal(got, descs(16, api.Desc{Blocks: 1, Inodes: 2, Dirs: 3})) {
		t.Error("DecodeDescs keeps what was handed in")
	}
}

// scribble writes on all that a list reaches, also behind its end.
func scribble[T any](l []T, x T) {
	l = l[:cap(l)]
	for i := range l {
		l[i] = x
	}
}

// What is answered shares no memory with what was handed in, nor with another answer.
func TestR3Answers(t *testing.T) {
	page, block := goodFields().bytes(), descBytes(descs(16, api.Desc{Blocks: 9, Dirs: 1})...)
	for range 3 {
		b, e := layout.EncodeSuper(goodFields().super())
		if e != api.OK || !bytes.Equal(b, page) {
			t.Fatal("EncodeSuper: an answer was kept")
		}
		other, _ := layout.EncodeSuper(goodFields().super())
		scribble(b, 0x77)
		if !bytes.Equal(other, page) {
			t.Fatal("EncodeSuper: two answers share memory")
		}
		c, e := layout.EncodeDescs(descs(16, api.Desc{Blocks: 9, Dirs: 1})...)
		if e != api.OK || !bytes.Equal(c, block) {
			t.Fatal("EncodeDescs: an answer was kept")
		}
		other, _ = layout.EncodeDescs(descs(16, api.Desc{Blocks: 9, Dirs: 1})...)
		scribble(c, 0x77)
		if !bytes.Equal(other, block) {
			t.Fatal("EncodeDescs: two answers share memory")
		}
		l, e := layout.DecodeDescs(block, 16)
		if e != api.OK || !slices.Equal(l, descs(16, api.Desc{Blocks: 9, Dirs: 1})) {
			t.Fatal("DecodeDescs: an answer was kept", l)
		}
		more, _ := layout.DecodeDescs(block, 16)
		scribble(l, api.Desc{Blocks: 7})
		if !slices.Equal(more, descs(16, api.Desc{Blocks: 9, Dirs: 1})) {
			t.Fatal("DecodeDescs: two answers share memory")
		}
	}
}

// An iterator tells what was there when it was asked for.
func TestR3Iterator(t *testing.T) {
	s := shape(300, 16)
	all := layout.All(s)
	s.Blocks = 8192
	n := 0
	for range all {
		n++
	}
	is(t, "All", n, 3)
}

// Empty and nil lists are the same.
func TestR4(t *testing.T) {
	a, e := layout.EncodeDescs()
	b, f := layout.EncodeDescs([]api.Desc{}...)
	if e != api.OK || f != api.OK || !bytes.Equal(a, b) || len(a) != 256 {
		t.Error("EncodeDescs", a, b, e, f)
	}
	l, e := layout.DecodeDescs(a, 0)
	if e != api.OK || len(l) != 0 {
		t.Error("DecodeDescs", l, e)
	}
	noSuper(t, "nil", nil)
	noSuper(t, "empty", []byte{})
	noDescs(t, "nil", nil, 0, api.ErrSuper)
	noDescs(t, "empty", []byte{}, 0, api.ErrSuper)
}

// A shape that no call made answers as one without groups.
func TestR5(t *testing.T) {
	is(t, "Check", layout.Check(api.Shape{}), api.ErrShape)
	refusesShape(t, api.Shape{})
}

func TestR6(t *testing.T) {
	run := func() []byte {
		var s stream = 23
		var said []byte
		for range 200 {
			x := s.super()
			b, _ := layout.EncodeSuper(x)
			said = append(said, b...)
			b, _ = layout.EncodeDescs(s.descs(s.below(17))...)
			said = append(said, b...)
			for g, what := range layout.All(x.Shape) {
				said = append(said, byte(g), byte(what.Data), byte(layout.Kind(x.Shape, s.below(9000))))
			}
		}
		return said
	}
	if !bytes.Equal(run(), run()) {
		t.Error("the same calls did not answer the same")
	}
}

// What is far too much is refused in time, and the greatest shape is asked of all its blocks in time.
func TestTheBound(t *testing.T) {
	begun := time.Now()
	const n = 1 << 24
	b, e := layout.EncodeDescs(make([]api.Desc, n)...)
	noBytes(t, "EncodeDescs", b, e, api.ErrArg)
	noSuper(t, "far too long", make([]byte, n))
	noDescs(t, "far too long", make([]byte, n), 16, api.ErrSuper)
	noDescs(t, "far too many", make([]byte, n), math.MaxInt, api.ErrArg)
	plans(t, math.MaxInt, 16, 0, api.ErrArg)
	is(t, "Groups", layout.Groups(shape(math.MaxInt, 16)), 0)
	is(t, "Capacity", layout.Capacity(shape(math.MaxInt, 16)), 0)
	for range 100 {
		for block := range 8192 {
			layout.Kind(shape(8192, 64), block)
		}
	}
	if took := time.Since(begun); took > 20*time.Second {
		t.Error("it took", took)
	}
}

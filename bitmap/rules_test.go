package bitmap_test

import (
	"bytes"
	"math"
	"slices"
	"strings"
	"testing"
	"time"

	"slipway/api"
	"slipway/bitmap"
)

var oddNumbers = []int{math.MinInt, math.MinInt + 1, math.MinInt32, -2048, -1, 0, 1, 8, 20, 255, 2047, 2048, 2049, math.MaxInt32, 1 << 32, math.MaxInt - 2048, math.MaxInt - 1, math.MaxInt}

// Whatever is handed in: each call ends, none panics, and with an error all else is zero.
func TestR1AndR2(t *testing.T) {
	lists := [][]byte{nil, {}, {255}, make([]byte, 256), made(""), made("...."), made(strings.Repeat("#.", 10)), make([]byte, 255), make([]byte, 257), bytes.Repeat([]byte{255}, 70000)}
	for _, b := range lists {
		for _, n := range oddNumbers {
			c, e := bitmap.New(n)
			is(t, "New", c == nil, e != api.OK)
			right := bitmap.Check(b, n) == api.OK
			is(t, "Count", bitmap.Count(b, n) > 0 && !right, false)
			for at, many := range bitmap.Runs(b, n) {
				is(t, "Runs", right && at >= 0 && many > 0 && at+many <= n, true)
			}
			for _, a := range lists {
				c, e = bitmap.Minus(a, b, n)
				is(t, "Minus", c == nil, e != api.OK)
			}
			for _, from := range oddNumbers {
				is(t, "Has", bitmap.Has(b, n, from) && !right, false)
				for _, many := range oddNumbers {
					allOf(t, b, n, from, many)
				}
			}
		}
	}
}

func allOf(t *testing.T, b []byte, n, from, many int) {
	t.Helper()
	c, e := bitmap.Set(b, n, from, many)
	is(t, "Set", c == nil, e != api.OK)
	is(t, "Set", e != api.OK || len(c) == 256, true)
	c, e = bitmap.Clear(b, n, from, many)
	is(t, "Clear", c == nil, e != api.OK)
	is(t, "Clear", e != api.OK || len(c) == 256, true)
	at, length := bitmap.Run(b, n, from, many)
	is(t, "Run", at >= 0 && length >= 0 && length <= max(0, many), true)
}

// What is handed in is not written to, nor what stands behind it.
func TestR3HandedIn(t *testing.T) {
	for _, text := range []string{"", "...", "###", "..#.##....", strings.Repeat("#.", 1024)} {
		n := len(text)
		whole := append(made(text), 0x5a, 0x5a, 0x5a, 0x5a)
		b, was := whole[:256], slices.Clone(whole)
		bitmap.Check(b, n)
		bitmap.Count(b, n)
		told(b, n)
		bitmap.Minus(b, b, n)
		for from := range n + 2 {
			bitmap.Has(b, n, from)
			for many := range 5 {
				bitmap.Set(b, n, from, many)
				bitmap.Clear(b, n, from, many)
				bitmap.Run(b, n, from, many)
			}
		}
		if !bytes.Equal(whole, was) {
			t.Errorf("% x became % x", was, whole)
		}
	}
}

// scribble writes on all that bytes reach, also behind their end.
func scribble(b []byte) {
	b = b[:cap(b)]
	for i := range b {
		b[i] ^= 0x77
	}
}

// calls answer bitmaps of two that are handed in: also such as change no bit.
func calls(a, b []byte, n int) [][]byte {
	var l [][]byte
	keep := func(c []byte, _ api.Errno) { l = append(l, c) }
	keep(bitmap.New(n))
	keep(bitmap.Set(a, n, 0, 0))
	keep(bitmap.Set(a, n, 1, 2))
	keep(bitmap.Clear(a, n, n, 0))
	keep(bitmap.Clear(b, n, 1, 2))
	keep(bitmap.Minus(a, b, n))
	keep(bitmap.Minus(b, a, n))
	keep(bitmap.Minus(a, made(strings.Repeat(".", n)), n))
	keep(bitmap.Minus(a, a, n))
	return l
}

// What is answered shares no memory with what was handed in, nor with another answer.
func TestR3Answers(t *testing.T) {
	first, second := made("....##..#."), made("####.#.#..")
	for range 3 {
		a, b := slices.Clone(first), slices.Clone(second)
		want := calls(first, second, 10)
		got := calls(a, b, 10)
		scribble(a)
		scribble(b)
		for i := range got {
			if len(got[i]) != 256 || !bytes.Equal(got[i], want[i]) {
				t.Fatal("an answer hangs on what was handed in, or on another one:", i)
			}
			scribble(got[i])
		}
	}
	b := slices.Clone(first)
	for _, c := range calls(b, second, 10) {
		scribble(c)
		if !bytes.Equal(b, first) {
			t.Fatal("an answer is what was handed in")
		}
	}
}

// An iterator tells what was there when it was asked for.
func TestR3Iterator(t *testing.T) {
	text := "..#.##...#....#"
	want := split(text)
	b := made(text)
	runs := bitmap.Runs(b, len(text))
	clear(b)
	for range 3 {
		var got []run
		for at, many := range runs {
			got = append(got, run{at, many})
			scribble(b)
		}
		if !slices.Equal(got, want) {
			t.Errorf("%v, want %v", got, want)
		}
	}
	// One of a bitmap that was refused tells nothing, also if that is mended later.
	b = made(text)
	runs = bitmap.Runs(b, len(text)-2)
	b[1] |= 0x20
	is(t, "Check", bitmap.Check(b, len(text)-2), api.OK)
	for at, many := range runs {
		t.Error("Runs of what was refused:", at, many)
	}
}

// Empty and nil lists are the same.
func TestR4(t *testing.T) {
	for _, n := range []int{0, 1, 2048} {
		for _, b := range [][]byte{nil, {}} {
			is(t, "Check", bitmap.Check(b, n), api.ErrBits)
			is(t, "Count", bitmap.Count(b, n), 0)
			is(t, "Runs", len(told(b, n)), 0)
			_, e := bitmap.Minus(b, b, n)
			is(t, "Minus", e, api.ErrBits)
		}
	}
}

func TestR6(t *testing.T) {
	all := func() []byte {
		var said []byte
		var s stream = 31
		for _, text := range manyTexts(32) {
			b, n := made(text), len(text)
			from, many := s.piece(text, ".")
			c, e := bitmap.Set(b, n, from, many)
			said = append(append(said, c...), byte(e))
			d, e := bitmap.Minus(c, b, n)
			said = append(append(said, d...), byte(e))
			at, length := bitmap.Run(c, n, from, many)
			said = append(said, byte(at), byte(length))
			for at, many := range bitmap.Runs(c, n) {
				said = append(said, byte(at), byte(many))
			}
		}
		return said
	}
	if !bytes.Equal(all(), all()) {
		t.Error("the same calls did not answer the same")
	}
}

// What is far too much is refused in time, and the greatest bitmap is gone through in time.
func TestTheBound(t *testing.T) {
	begun := time.Now()
	long := make([]byte, 1<<24)
	for range 1000 {
		is(t, "Check", bitmap.Check(long, 2048), api.ErrBits)
		is(t, "Count", bitmap.Count(long, math.MaxInt), 0)
		is(t, "Runs", len(told(long, 2048)), 0)
		_, e := bitmap.New(math.MaxInt)
		is(t, "New", e, api.ErrArg)
		_, e = bitmap.Set(make([]byte, 256), 2048, 0, math.MaxInt)
		is(t, "Set", e, api.ErrBit)
	}
	b := made(strings.Repeat("#.", 1024))
	for goal := range 2048 {
		at, many := bitmap.Run(b, 2048, goal, math.MaxInt)
		is(t, "Run", [2]int{at, many}, [2]int{1, 1})
	}
	if took := time.Since(begun); took > 20*time.Second {
		t.Error("it took", took)
	}
}

package bitmap_test

import (
	"bytes"
	"math"
	"strings"
	"testing"

	"slipway/api"
	"slipway/bitmap"
)

func is[T comparable](t *testing.T, name string, got, want T) {
	t.Helper()
	if got != want {
		t.Errorf("%s: %v, want %v", name, got, want)
	}
}

// The tests write bits as a text, the bit 0 first: '.' is 0 and '#' is 1.

// made is the bitmap of a text, its bytes laid by arithmetic as the chapter says.
func made(text string) []byte {
	b := bytes.Repeat([]byte{255}, 256)
	for i, c := range []byte(text) {
		if c == '.' {
			b[i/8] -= []byte{1, 2, 4, 8, 16, 32, 64, 128}[i%8]
		}
	}
	return b
}

// short is a text, so cut that it can be told.
func short(text string) string {
	if len(text) > 80 {
		return text[:80] + ".."
	}
	return text
}

// answers fails if a call that answers a bitmap did not answer that of a text; with an error it is to be nil.
func answers(t *testing.T, name string, b []byte, e api.Errno, text string, want api.Errno) {
	t.Helper()
	if e != want {
		t.Fatalf("%s: %v, want %v", name, e, want)
	}
	if want != api.OK && b != nil {
		t.Fatalf("%s: %v, and bytes beside it", name, e)
	}
	if want == api.OK && !bytes.Equal(b, made(text)) {
		t.Fatalf("%s: % x, want % x", name, b, made(text))
	}
}

type refused struct {
	name string
	b    []byte
	n    int
}

// wrong are bitmaps that Check refuses, each for one reason alone, but the last ones.
func wrong() []refused {
	hole := func(n, at int) []byte {
		b := made(strings.Repeat(".", n))
		b[at/8] &^= 1 << (at % 8)
		return b
	}
	l := []refused{
		{"nil", nil, 20}, {"empty", []byte{}, 20}, {"nil of none", nil, 0},
		{"one byte less", made(strings.Repeat(".", 20))[:255], 20},
		{"one byte more", append(made(strings.Repeat(".", 20)), 255), 20},
		{"one byte less of all", make([]byte, 255), 2048},
		{"one byte more of all", make([]byte, 257), 2048},
		{"one byte less of none", bytes.Repeat([]byte{255}, 255), 0},
		{"one byte more of none", bytes.Repeat([]byte{255}, 257), 0},
		{"the bit n", hole(20, 20), 20}, {"in the byte of n", hole(20, 23), 20}, {"in the next byte", hole(20, 24), 20},
		{"in between", hole(20, 1000), 20}, {"the last bit", hole(20, 2047), 20},
		{"the bit n at a byte", hole(16, 16), 16}, {"the first bit of none", hole(0, 0), 0}, {"the last bit of none", hole(0, 2047), 0},
		{"the last bit of all but one", hole(2047, 2047), 2047},
		{"all bits behind", make([]byte, 256), 20}, {"too short by one bit", made(strings.Repeat(".", 21)), 20},
	}
	for _, n := range []int{-1, -8, -20, 2049, 2056, 4096, math.MinInt, math.MinInt32, math.MaxInt32, 1<<32 + 20, math.MaxInt} {
		for _, b := range [][]byte{made(""), made(strings.Repeat(".", 20)), make([]byte, 256), nil} {
			l = append(l, refused{"a wrong n", b, n})
		}
	}
	return l
}

var someLengths = []int{0, 1, 7, 8, 9, 15, 16, 17, 20, 1000, 2040, 2041, 2047, 2048}

func TestP121New(t *testing.T) {
	for _, n := range []int{-1, -8, 2049, 2056, math.MinInt, math.MinInt32, math.MaxInt32, 1 << 32, math.MaxInt} {
		b, e := bitmap.New(n)
		answers(t, "New", b, e, "", api.ErrArg)
	}
	for n := range 2049 {
		b, e := bitmap.New(n)
		answers(t, "New", b, e, strings.Repeat(".", n), api.OK)
		is(t, "Check", bitmap.Check(b, n), api.OK)
	}
	b, _ := bitmap.New(20)
	is(t, "the first bytes", string(b[:4]), "\x00\x00\xf0\xff")
}

func TestP121Check(t *testing.T) {
	for _, n := range someLengths {
		for _, text := range []string{strings.Repeat(".", n), strings.Repeat("#", n), strings.Repeat("#.#", n)[:n], strings.Repeat("..#", n)[:n]} {
			is(t, "Check", bitmap.Check(made(text), n), api.OK)
		}
	}
	for _, x := range wrong() {
		is(t, "Check: "+x.name, bitmap.Check(x.b, x.n), api.ErrBits)
	}
}

// One bit from n on that is 0, whichever it is, is one too many; below n it is none.
func TestP121CheckOfEachBit(t *testing.T) {
	for _, n := range someLengths {
		b := made(strings.Repeat("#", n))
		for at := range 2048 {
			b[at/8] ^= 1 << (at % 8)
			want := api.OK
			if at >= n {
				want = api.ErrBits
			}
			if e := bitmap.Check(b, n); e != want {
				t.Fatalf("Check of %d bits, the bit %d is 0: %v, want %v", n, at, e, want)
			}
			b[at/8] ^= 1 << (at % 8)
		}
	}
}

// A bitmap that Check refuses is one of no bits, or ErrBits, whatever else is wrong.
func TestP121Refused(t *testing.T) {
	for _, x := range wrong() {
		for _, i := range []int{-1, 0, 1, 19, 20, 21, 2047, 2048, math.MinInt, math.MaxInt} {
			is(t, "Has: "+x.name, bitmap.Has(x.b, x.n, i), false)
			for _, many := range []int{-1, 0, 1, 20, 2048, math.MinInt, math.MaxInt} {
				b, e := bitmap.Set(x.b, x.n, i, many)
				answers(t, "Set: "+x.name, b, e, "", api.ErrBits)
				b, e = bitmap.Clear(x.b, x.n, i, many)
				answers(t, "Clear: "+x.name, b, e, "", api.ErrBits)
				at, length := bitmap.Run(x.b, x.n, i, many)
				is(t, "Run: "+x.name, [2]int{at, length}, [2]int{})
			}
		}
		is(t, "Count: "+x.name, bitmap.Count(x.b, x.n), 0)
		for at, many := range bitmap.Runs(x.b, x.n) {
			t.Error("Runs: "+x.name, at, many)
		}
	}
}

func TestP121RefusedByMinus(t *testing.T) {
	for _, x := range wrong() {
		right := made(strings.Repeat(".", min(max(x.n, 0), 2048)))
		b, e := bitmap.Minus(x.b, right, x.n)
		answers(t, "Minus, the first: "+x.name, b, e, "", api.ErrBits)
		b, e = bitmap.Minus(right, x.b, x.n)
		answers(t, "Minus, the second: "+x.name, b, e, "", api.ErrBits)
		b, e = bitmap.Minus(x.b, x.b, x.n)
		answers(t, "Minus, both: "+x.name, b, e, "", api.ErrBits)
	}
}

func TestP122Has(t *testing.T) {
	var s stream = 1
	for _, n := range someLengths {
		text := s.bits(n)
		b := made(text)
		for i := -1; i <= 2050; i++ {
			is(t, "Has", bitmap.Has(b, n, i), i >= 0 && i < n && text[i] == '#')
		}
		for _, i := range []int{math.MinInt, math.MinInt32, -2048, -8, 1 << 32, math.MaxInt32, math.MaxInt} {
			is(t, "Has", bitmap.Has(b, n, i), false)
		}
	}
	full := made(strings.Repeat("#", 20))
	for i, want := range map[int]bool{-1: false, 0: true, 19: true, 20: false} {
		is(t, "Has", bitmap.Has(full, 20, i), want)
	}
}

// flip is the text in which many bits from from on are what they were not, and the error, if one of them is not as it was to be.
func flip(text string, from, many int, was, now string) (string, api.Errno) {
	if from < 0 || many < 0 || from > len(text) || many > len(text) || from+many > len(text) {
		return "", api.ErrBit
	}
	if text[from:from+many] != strings.Repeat(was, many) {
		return "", api.ErrSet
	}
	return text[:from] + strings.Repeat(now, many) + text[from+many:], api.OK
}

// turns fails if Set or Clear do not answer what they are to.
func turns(t *testing.T, text string, from, many int) {
	t.Helper()
	want, right := flip(text, from, many, ".", "#")
	b, e := bitmap.Set(made(text), len(text), from, many)
	answers(t, "Set of "+short(text), b, e, want, right)
	want, right = flip(text, from, many, "#", ".")
	b, e = bitmap.Clear(made(text), len(text), from, many)
	answers(t, "Clear of "+short(text), b, e, want, right)
}

// allTexts are all texts of at most so many bits.
func allTexts(most int) []string {
	l := []string{""}
	for from := 0; len(l[from]) < most; from++ {
		l = append(l, l[from]+".", l[from]+"#")
	}
	return l
}

func TestP122SetAndClearOfAllSmall(t *testing.T) {
	for _, text := range allTexts(9) {
		for from := -1; from <= len(text)+1; from++ {
			for many := -1; many <= len(text)+1; many++ {
				turns(t, text, from, many)
			}
		}
	}
}

func TestP122SetAndClearOfEdges(t *testing.T) {
	for _, n := range someLengths {
		edges := []int{math.MinInt, math.MinInt + 1, -2048, -n - 1, -n, -1, 0, 1, n - 1, n, n + 1, 2048, 2049, 1 << 32, math.MaxInt - n, math.MaxInt - 1, math.MaxInt}
		for _, text := range []string{strings.Repeat(".", n), strings.Repeat("#", n)} {
			for _, from := range edges {
				for _, many := range edges {
					turns(t, text, from, many)
				}
			}
			for from := 0; from <= n; from += 1 + n/40 {
				turns(t, text, from, n-from)
				turns(t, text, from, n-from+1)
			}
		}
	}
}

// One bit alone that is what it is to become, first, last or in between, is an error; just beside the bits it is none.
func TestP122OneBitIsSo(t *testing.T) {
	for _, n := range []int{20, 64, 1000, 2048} {
		for _, x := range [][2]int{{0, n}, {3, 9}, {8, 8}, {7, 10}, {5, 1}, {n - 9, 9}} {
			from, many := x[0], x[1]
			for at := max(0, from-1); at < min(n, from+many+1); at++ {
				text := strings.Repeat(".", at) + "#" + strings.Repeat(".", n-at-1)
				want := api.ErrSet
				if at < from || at >= from+many {
					want = api.OK
				}
				_, e := bitmap.Set(made(text), n, from, many)
				is(t, "Set", e, want)
				_, e = bitmap.Clear(made(strings.Map(other, text)), n, from, many)
				is(t, "Clear", e, want)
				turns(t, text, from, many)
				turns(t, strings.Map(other, text), from, many)
			}
		}
	}
}

func other(c rune) rune { return '.' + '#' - c }

// Where two errors apply: ErrBits, then ErrBit, then ErrSet.
func TestP122TwoErrors(t *testing.T) {
	full, none := made(strings.Repeat("#", 20)), made(strings.Repeat(".", 20))
	for _, x := range [][2]int{{-1, 1}, {0, -1}, {19, 2}, {0, 21}, {21, 0}, {20, 1}, {1, math.MaxInt}, {math.MaxInt, 1}, {math.MaxInt, math.MaxInt}} {
		b, e := bitmap.Set(full, 20, x[0], x[1])
		answers(t, "Set", b, e, "", api.ErrBit)
		b, e = bitmap.Clear(none, 20, x[0], x[1])
		answers(t, "Clear", b, e, "", api.ErrBit)
		b, e = bitmap.Set(full[:255], 20, x[0], x[1])
		answers(t, "Set", b, e, "", api.ErrBits)
		b, e = bitmap.Clear(none, 19, x[0], x[1])
		answers(t, "Clear", b, e, "", api.ErrBits)
	}
	b, e := bitmap.Set(full[1:], 20, 0, 1)
	answers(t, "Set", b, e, "", api.ErrBits)
}

// minus is what Minus is to answer, bit by bit.
func minus(a, b string) string {
	c := []byte(a)
	for i := range c {
		if b[i] == '#' {
			c[i] = '.'
		}
	}
	return string(c)
}

func TestP122Minus(t *testing.T) {
	take := func(a, b string) {
		t.Helper()
		c, e := bitmap.Minus(made(a), made(b), len(a))
		answers(t, "Minus of "+short(a)+" and "+short(b), c, e, minus(a, b), api.OK)
	}
	small := allTexts(5)
	for _, a := range small {
		for _, b := range small {
			if len(a) == len(b) {
				take(a, b)
			}
		}
	}
	var s stream = 2
	for _, n := range someLengths {
		none, full := strings.Repeat(".", n), strings.Repeat("#", n)
		for range 20 {
			a, b := s.bits(n), s.bits(n)
			for _, c := range []string{b, a, none, full, strings.Map(other, a)} {
				take(a, c)
				take(c, a)
			}
		}
	}
	same, _ := bitmap.Minus(made("#.#"), made("#.#"), 3)
	is(t, "of the same", string(same[:2]), "\xf8\xff")
	apart, _ := bitmap.Minus(made("#.#."), made(".#.#"), 4)
	is(t, "of such as have no bit in common", string(apart[:2]), "\xf5\xff")
	zero, e := bitmap.Minus(made(""), made(""), 0)
	answers(t, "of no bits", zero, e, "", api.OK)
}

func TestExample(t *testing.T) {
	b, _ := bitmap.New(10)
	b, e := bitmap.Set(b, 10, 3, 4)
	answers(t, "Set", b, e, "...####...", api.OK)
	finds(t, "...####...", 2, 3, 7, 3)
	finds(t, "...####...", 2, 4, 0, 3)
}

// manyTexts are those at the edges of lengths, with no bit, all bits and some that are 1, and others.
func manyTexts(seed stream) []string {
	var l []string
	for _, n := range someLengths {
		l = append(l, strings.Repeat(".", n), strings.Repeat("#", n), seed.bits(n), seed.bits(n), seed.bits(n))
	}
	for range 60 {
		l = append(l, seed.bits(seed.below(200)), seed.bits(seed.below(2049)))
	}
	return l
}

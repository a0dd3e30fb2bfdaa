package bitmap_test

import (
	"bytes"
	"strings"
	"testing"

	"slipway/api"
	"slipway/bitmap"
)

// stream gives numbers that look mixed and are the same in every run.
type stream uint64

func (s *stream) next() uint64 {
	*s = *s*6364136223846793005 + 1442695040888963407
	return uint64(*s >> 33)
}

func (s *stream) below(n int) int { return int(s.next() % uint64(n)) }

// bits is a text of n bits, of runs that are long in some texts and short in others.
func (s *stream) bits(n int) string {
	var b strings.Builder
	most := []int{1, 3, 10, 100, 700}[s.below(5)]
	for kind := s.below(2); b.Len() < n; kind = 1 - kind {
		b.WriteString(strings.Repeat(".#"[kind:kind+1], 1+s.below(most)))
	}
	return b.String()[:n]
}

// piece is some bits of a text that are all of one kind, if there are such at the place that was drawn.
func (s *stream) piece(text, kind string) (int, int) {
	from := s.below(len(text) + 1)
	all := len(text[from:]) - len(strings.TrimLeft(text[from:], kind))
	return from, s.below(all + 1)
}

func TestP124ThereAndBack(t *testing.T) {
	var s stream = 11
	turned := 0
	for _, text := range manyTexts(12) {
		b, n := made(text), len(text)
		for range 20 {
			from, many := s.piece(text, ".")
			c, e := bitmap.Set(b, n, from, many)
			is(t, "Set", e, api.OK)
			d, e := bitmap.Clear(c, n, from, many)
			answers(t, "Clear of Set", d, e, text, api.OK)
			turned += many
			from, many = s.piece(text, "#")
			c, e = bitmap.Clear(b, n, from, many)
			is(t, "Clear", e, api.OK)
			d, e = bitmap.Set(c, n, from, many)
			answers(t, "Set of Clear", d, e, text, api.OK)
			turned += many
		}
	}
	if turned < 1000 {
		t.Error("too few bits were turned:", turned)
	}
}

func TestP125Counted(t *testing.T) {
	var s stream = 13
	for _, text := range manyTexts(14) {
		b, n := made(text), len(text)
		count := bitmap.Count(b, n)
		sum, end := 0, -1
		for at, many := range bitmap.Runs(b, n) {
			if at <= end || many < 1 || at+many > n {
				t.Fatalf("Runs of %s: %d, %d behind %d", short(text), at, many, end)
			}
			sum, end = sum+many, at+many
		}
		is(t, "the runs together", sum, count)
		for range 20 {
			from, many := s.piece(text, ".")
			c, _ := bitmap.Set(b, n, from, many)
			is(t, "Count behind Set", bitmap.Count(c, n), count-many)
			from, many = s.piece(text, "#")
			c, _ = bitmap.Clear(b, n, from, many)
			is(t, "Count behind Clear", bitmap.Count(c, n), count+many)
		}
	}
}

func TestP126WhatIsFoundIsFree(t *testing.T) {
	var s stream = 15
	for _, text := range manyTexts(16) {
		b, n := made(text), len(text)
		longest := 0
		for _, many := range bitmap.Runs(b, n) {
			longest = max(longest, many)
		}
		for range 30 {
			goal, want := s.below(n+3)-1, s.below(1+min(n+2, 1<<s.below(12)))
			at, many := bitmap.Run(b, n, goal, want)
			if _, e := bitmap.Set(b, n, at, many); e != api.OK {
				t.Fatalf("Run of %s, %d, %d: %d, %d: %v", short(text), goal, want, at, many, e)
			}
			is(t, "how many", many, min(want, longest))
		}
	}
}

// Set what Run finds, again and again, till all bits are 1; then take it back.
func TestP126TillAllAreSet(t *testing.T) {
	var s stream = 17
	for _, n := range someLengths {
		b, _ := bitmap.New(n)
		first := b
		var taken []run
		for bitmap.Count(b, n) > 0 {
			at, many := bitmap.Run(b, n, s.below(n), 1+s.below(1+n/9))
			c, e := bitmap.Set(b, n, at, many)
			if e != api.OK || many < 1 {
				t.Fatal(at, many, e)
			}
			b, taken = c, append(taken, run{at, many})
		}
		is(t, "all of them", bytes.Equal(b, bytes.Repeat([]byte{255}, 256)), true)
		for _, r := range taken {
			c, e := bitmap.Clear(b, n, r.at, r.many)
			if e != api.OK {
				t.Fatal(r, e)
			}
			b = c
		}
		is(t, "there and back", bytes.Equal(b, first), true)
	}
}

package bitmap_test

import (
	"math"
	"slices"
	"strings"
	"testing"

	"slipway/bitmap"
)

type run struct{ at, many int }

// split are the runs of a text, found by cutting it at its 1s.
func split(text string) []run {
	var l []run
	at := 0
	for _, piece := range strings.Split(text, "#") {
		if piece != "" {
			l = append(l, run{at, len(piece)})
		}
		at += len(piece) + 1
	}
	return l
}

func told(b []byte, n int) []run {
	var l []run
	for at, many := range bitmap.Runs(b, n) {
		l = append(l, run{at, many})
	}
	return l
}

// seek is what Run is to answer: the goal cuts the text, and the runs of what is behind it are its pieces.
func seek(text string, goal, want int) run {
	if want < 1 {
		return run{}
	}
	if goal < 0 || goal >= len(text) {
		goal = 0
	}
	for _, r := range split(strings.Repeat("#", goal) + text[goal:]) {
		if r.many >= want {
			return run{r.at, want}
		}
	}
	all := split(text)
	for _, r := range all {
		if r.at < goal && r.many >= want {
			return run{r.at, want}
		}
	}
	if len(all) == 0 {
		return run{}
	}
	return slices.MaxFunc(all, func(a, b run) int { return a.many - b.many })
}

// finds fails if Run does not answer this.
func finds(t *testing.T, text string, goal, want, at, many int) {
	t.Helper()
	if a, m := bitmap.Run(made(text), len(text), goal, want); a != at || m != many {
		t.Errorf("Run of %s, %d, %d: %d, %d, want %d, %d", short(text), goal, want, a, m, at, many)
	}
}

func TestP123Count(t *testing.T) {
	for _, text := range append(allTexts(8), manyTexts(3)...) {
		is(t, "Count of "+short(text), bitmap.Count(made(text), len(text)), strings.Count(text, "."))
	}
	for _, n := range someLengths {
		is(t, "Count of no bit", bitmap.Count(made(strings.Repeat("#", n)), n), 0)
		is(t, "Count of all bits", bitmap.Count(made(strings.Repeat(".", n)), n), n)
	}
}

func TestP123Runs(t *testing.T) {
	for _, text := range append(allTexts(9), manyTexts(4)...) {
		if got := told(made(text), len(text)); !slices.Equal(got, split(text)) {
			t.Fatalf("Runs of %s: %v, want %v", short(text), got, split(text))
		}
	}
	for text, want := range map[string][]run{
		"": nil, "#": nil, "####": nil, ".": {{0, 1}}, "....": {{0, 4}},
		".#.#.": {{0, 1}, {2, 1}, {4, 1}}, "#.#.#": {{1, 1}, {3, 1}},
		"..##": {{0, 2}}, "##..": {{2, 2}}, "..#...": {{0, 2}, {3, 3}}, "#........#": {{1, 8}},
	} {
		if got := told(made(text), len(text)); !slices.Equal(got, want) {
			t.Errorf("Runs of %s: %v, want %v", text, got, want)
		}
	}
	if got := told(make([]byte, 256), 2048); !slices.Equal(got, []run{{0, 2048}}) {
		t.Error("Runs of all bits", got)
	}
}

// Runs may be left at any one, and be ranged over again.
func TestP123RunsLeftEarly(t *testing.T) {
	text := "..#.##...#....#"
	all := split(text)
	runs := bitmap.Runs(made(text), len(text))
	for leave := range len(all) + 1 {
		var got []run
		for at, many := range runs {
			if len(got) == leave {
				break
			}
			got = append(got, run{at, many})
		}
		if !slices.Equal(got, all[:leave]) {
			t.Errorf("left behind %d: %v", leave, got)
		}
	}
	for at, many := range runs {
		var inner []run
		for a, m := range runs {
			inner = append(inner, run{a, m})
		}
		if !slices.Equal(inner, all) || !slices.Contains(all, run{at, many}) {
			t.Errorf("one within the other: %v", inner)
		}
	}
}

func TestP123RunOfAllSmall(t *testing.T) {
	for _, text := range allTexts(9) {
		for goal := -1; goal <= len(text)+1; goal++ {
			for want := -1; want <= len(text)+1; want++ {
				r := seek(text, goal, want)
				finds(t, text, goal, want, r.at, r.many)
			}
		}
	}
}

func TestP123RunOfMany(t *testing.T) {
	var s stream = 5
	for _, text := range manyTexts(6) {
		n := len(text)
		for _, goal := range []int{math.MinInt, -1, 0, n / 2, n - 1, n, n + 1, math.MaxInt, s.below(n + 1), s.below(n + 1)} {
			for _, want := range []int{math.MinInt, -1, 0, 1, 2, 3, n - 1, n, n + 1, math.MaxInt, 1 + s.below(n+1), 1 + s.below(9)} {
				r := seek(text, goal, want)
				finds(t, text, goal, want, r.at, r.many)
			}
		}
	}
}

func TestP123RunOfWants(t *testing.T) {
	text := "..#....#..."
	n := len(text)
	for _, want := range []int{-1, 0, math.MinInt} {
		for goal := -1; goal <= n; goal++ {
			finds(t, text, goal, want, 0, 0)
		}
	}
	finds(t, text, 0, 1, 0, 1)
	finds(t, text, 0, 2, 0, 2)
	finds(t, text, 0, 3, 3, 3)
	finds(t, text, 0, 4, 3, 4)
	finds(t, text, 0, n, 3, 4)
	finds(t, text, 0, n+1, 3, 4)
	finds(t, text, 0, math.MaxInt, 3, 4)
	all := strings.Repeat(".", n)
	finds(t, all, 0, n, 0, n)
	finds(t, all, 0, n+1, 0, n)
	finds(t, all, n-1, 1, n-1, 1)
	finds(t, all, n-1, n, 0, n)
}

// A goal that is no bit's is as 0.
func TestP123RunOfGoals(t *testing.T) {
	text := ".#..#..."
	for _, goal := range []int{-1, len(text), len(text) + 1, 2048, math.MinInt, math.MaxInt} {
		finds(t, text, goal, 1, 0, 1)
		finds(t, text, goal, 2, 2, 2)
		finds(t, text, goal, 3, 5, 3)
		finds(t, text, goal, 4, 5, 3)
	}
	finds(t, text, 0, 2, 2, 2)
	finds(t, text, 7, 1, 7, 1)
	finds(t, text, 7, 2, 2, 2)
}

// A goal inside a run: what lies at or behind it is a piece of its own.
func TestP123RunOfGoalsInside(t *testing.T) {
	text := "...#......#...."
	finds(t, text, 6, 4, 6, 4)
	finds(t, text, 7, 3, 7, 3)
	// Just too short: the next run.
	finds(t, text, 7, 4, 11, 4)
	finds(t, text, 9, 1, 9, 1)
	finds(t, text, 9, 2, 11, 2)
	// None behind it: from the beginning, the run that the goal is in among them.
	finds(t, text, 12, 4, 4, 4)
	finds(t, text, 12, 3, 12, 3)
	finds(t, text, 13, 3, 0, 3)
	finds(t, text, 6, 5, 4, 5)
	finds(t, text, 5, 6, 4, 6)
	finds(t, "..#....", 4, 4, 3, 4)
	finds(t, "##....", 3, 4, 2, 4)
	// On a 1, and at the beginning of a run.
	finds(t, text, 3, 3, 4, 3)
	finds(t, text, 4, 6, 4, 6)
	finds(t, text, 10, 4, 11, 4)
}

func TestP123RunOfNoneLongEnough(t *testing.T) {
	// The longest, of those the first, wherever the goal is.
	for goal := -1; goal <= 12; goal++ {
		finds(t, ".#...#..#...", goal, 4, 2, 3)
		finds(t, "#..#.#..", goal, 3, 1, 2)
		finds(t, "#..#.#...", goal, 9, 6, 3)
	}
	// No run at all.
	for _, n := range someLengths {
		for _, goal := range []int{-1, 0, n / 2, n - 1, n} {
			finds(t, strings.Repeat("#", n), goal, 1, 0, 0)
			finds(t, strings.Repeat("#", n), goal, n+1, 0, 0)
		}
	}
}

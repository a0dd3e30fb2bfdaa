package bitmap

import (
	"iter"

	"slipway/api"
)

// Count is how many bits are 0.
func Count(b []byte, n int) int {
	free := 0
	for i := range bitsOf(b, n) {
		if !isSet(b, i) {
			free++
		}
	}
	return free
}

// Runs goes through the runs of 0s: where each begins, how long it is.
func Runs(b []byte, n int) iter.Seq2[int, int] {
	if Check(b, n) != api.OK {
		return runs(nil, 0)
	}
	// What the owner of b writes later must not be told.
	return runs(own(b), n)
}

// Run is the first run of 0s that is long enough, at or behind a goal, else from the beginning; the longest one, if none is.
func Run(b []byte, n, goal, want int) (int, int) {
	if want < 1 {
		return 0, 0
	}
	n = bitsOf(b, n)
	if goal < 0 || goal >= n {
		goal = 0
	}
	if at, ok := behind(b, n, goal, want); ok {
		return at, want
	}
	if at, ok := ahead(b, n, goal, want); ok {
		return at, want
	}
	return longest(b, n)
}

// behind is where the first piece of a run begins that lies at or behind the goal and is long enough.
func behind(b []byte, n, goal, want int) (int, bool) {
	for at, many := range runs(b, n) {
		piece := max(at, goal)
		if at+many-piece >= want {
			return piece, true
		}
	}
	return 0, false
}

// ahead is where the first run begins that does so ahead of the goal and is long enough.
func ahead(b []byte, n, goal, want int) (int, bool) {
	for at, many := range runs(b, n) {
		if at >= goal {
			break
		}
		if many >= want {
			return at, true
		}
	}
	return 0, false
}

// longest is the longest run, of those the first.
func longest(b []byte, n int) (int, int) {
	begin, most := 0, 0
	for at, many := range runs(b, n) {
		if many > most {
			begin, most = at, many
		}
	}
	return begin, most
}

// runs goes through the runs of a bitmap as it stands while they are told.
func runs(b []byte, n int) iter.Seq2[int, int] {
	return func(yield func(int, int) bool) {
		many := 0
		for i := range n {
			if !isSet(b, i) {
				many++
				continue
			}
			if many > 0 && !yield(i-many, many) {
				return
			}
			many = 0
		}
		if many > 0 {
			yield(n-many, many)
		}
	}
}

package extent

import (
	"iter"
	"slices"

	"slipway/api"
)

// Runs goes through the parts of extents within the blocks from from to to - 1.
func Runs(l []api.Extent, from, to int) iter.Seq[api.Extent] {
	// What the owner of l writes later must not be told.
	return parts(slices.Clone(taken(l)), from, to)
}

// Holes goes through the runs of blocks that stand nowhere: the first block, and how many.
func Holes(l []api.Extent, from, to int) iter.Seq2[int, int] {
	from, to = max(from, 0), min(to, api.MaxFileBlocks)
	runs := Runs(l, from, to)
	return func(yield func(int, int) bool) {
		next := from
		for e := range runs {
			if next < e.Logical && !yield(next, e.Logical-next) {
				return
			}
			next = end(e)
		}
		if next < to {
			yield(next, to-next)
		}
	}
}

// Blocks is how many blocks stand somewhere.
func Blocks(l []api.Extent) int {
	sum := 0
	for _, e := range taken(l) {
		sum += e.Len
	}
	return sum
}

// End is the block behind the last one that stands somewhere.
func End(l []api.Extent) int {
	last := 0
	for _, e := range taken(l) {
		last = end(e)
	}
	return last
}

// parts goes through the parts of a list as it stands while they are told.
func parts(l []api.Extent, from, to int) iter.Seq[api.Extent] {
	return func(yield func(api.Extent) bool) {
		for _, e := range l {
			part := within(e, from, to)
			if part.Len > 0 && !yield(part) {
				return
			}
		}
	}
}

// within is the part of an extent within the blocks from from to to - 1; the zero value, if there is none.
func within(e api.Extent, from, to int) api.Extent {
	first, behind := max(e.Logical, from), min(end(e), to)
	if first >= behind {
		return api.Extent{}
	}
	return api.Extent{Logical: first, Len: behind - first, Phys: e.Phys + first - e.Logical}
}

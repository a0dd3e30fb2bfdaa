package scan

import (
	"cmp"
	"iter"
	"slices"

	"slipway/api"
	"slipway/page"
)

func pagesMayBe(pages int) bool {
	return pages >= api.MinPages && pages <= api.MaxPages
}

// isOn tells whether a place is one of a chip with so many pages a block.
func isOn(pages int, place api.Place) bool {
	return place.Phys >= 0 && place.Phys < api.MaxBlocks && place.Page >= 0 && place.Page < pages
}

// isPlace tells whether a place may be one of some chip: its pages a block are not asked for, so that a page that stands where it cannot is seen as one that is in the way.
func isPlace(place api.Place) bool {
	return isOn(api.MaxPages, place)
}

// copies goes through those of l that are copies of logical pages.
func copies(pages int, l []api.Found) iter.Seq[api.Found] {
	return func(yield func(api.Found) bool) {
		for _, f := range l {
			counts := page.Check(f.H) == api.OK && f.H.Kind != api.PgAnchor && isOn(pages, f.At)
			if counts && !yield(f) {
				return
			}
		}
	}
}

func comparePlaces(a, b api.Place) int {
	return cmp.Or(cmp.Compare(a.Phys, b.Phys), cmp.Compare(a.Page, b.Page))
}

// isAhead tells whether a is to be taken where b was found, too; which came first does not count.
func isAhead(a, b api.Found) bool {
	if page.Newer(a.H, b.H) || page.Newer(b.H, a.H) {
		return page.Newer(a.H, b.H)
	}
	return comparePlaces(a.At, b.At) < 0
}

// byBlock is, of each logical block, the copies of its pages.
func byBlock(pages, logical int, l []api.Found) [][]api.Found {
	blocks := make([][]api.Found, logical)
	for f := range copies(pages, l) {
		if block := f.H.Page / pages; block < logical {
			blocks[block] = append(blocks[block], f)
		}
	}
	return blocks
}

// standing is, of each page at each place, the copy with the greatest Seq; the order of found is lost by that.
func standing(found []api.Found) []api.Found {
	slices.SortFunc(found, func(a, b api.Found) int {
		return cmp.Or(cmp.Compare(a.H.Page, b.H.Page), comparePlaces(a.At, b.At), cmp.Compare(b.H.Seq, a.H.Seq))
	})
	return slices.CompactFunc(found, func(a, b api.Found) bool {
		return a.H.Page == b.H.Page && a.At == b.At
	})
}

// gathered is the least block that has all pages of a logical block at their numbers, as new as they are at these places, or none.
func gathered(places []api.Place, found []api.Found) int {
	found = standing(found)
	seqs := make([]int64, len(places)) // no copy has Seq 0
	for _, f := range found {
		if number := f.H.Page % len(places); f.At == places[number] {
			seqs[number] = f.H.Seq
		}
	}
	needs := 0
	for number, place := range places {
		if place.Phys == none {
			continue
		}
		// So also of a place that no chip has: nothing that counts is found there.
		if seqs[number] == 0 {
			return none
		}
		needs++
	}
	if needs == 0 {
		return none
	}
	var has [api.MaxBlocks]int
	for _, f := range found {
		if number := f.H.Page % len(places); f.At.Page == number && f.H.Seq == seqs[number] {
			has[f.At.Phys]++
		}
	}
	return slices.Index(has[:], needs)
}

// gather moves what has a place to its number in a block.
func gather(places []api.Place, phys int) {
	for number, place := range places {
		if place.Phys != none {
			places[number] = api.Place{Phys: phys, Page: number}
		}
	}
}

// homes is, of each logical block, the block in which it is settled, or none.
func homes(pages int, newest []api.Place) []int {
	var guests [api.MaxBlocks]int // logical blocks that have something there
	for places := range slices.Chunk(newest, pages) {
		for phys := range Needed(places) {
			guests[phys]++
		}
	}
	var l []int
	for places := range slices.Chunk(newest, pages) {
		phys := home(places)
		if phys != none && guests[phys] > 1 {
			phys = none
		}
		l = append(l, phys)
	}
	return l
}

// home is the block in which all that has a place stands, each page at its number, or none.
func home(places []api.Place) int {
	blocks := slices.Collect(Needed(places))
	if len(blocks) != 1 {
		return none
	}
	for number, place := range places {
		if isPlace(place) && place != (api.Place{Phys: blocks[0], Page: number}) {
			return none
		}
	}
	return blocks[0]
}

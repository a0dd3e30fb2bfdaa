package scan_test

import (
	"slices"
	"testing"

	"slipway/api"
	"slipway/page"
	"slipway/scan"
)

// What the chapter says, word by word and in no haste; any rows of what was found are held against it.

func isOnChip(pages int, p api.Place) bool {
	return p.Phys >= 0 && p.Phys <= 255 && p.Page >= 0 && p.Page <= pages-1
}

// counting are those of l that count for a logical page.
func counting(pages, p int, l []api.Found) []api.Found {
	var some []api.Found
	for _, f := range l {
		if page.Check(f.H) == api.OK && f.H.Kind != api.PgAnchor && f.H.Page == p && isOnChip(pages, f.At) {
			some = append(some, f)
		}
	}
	return some
}

// newestOf is the one of some for which none of the others speaks against it.
func newestOf(some []api.Found) (api.Found, bool) {
	for _, f := range some {
		beaten := slices.ContainsFunc(some, func(g api.Found) bool {
			switch {
			case g.H.Seq != f.H.Seq:
				return g.H.Seq > f.H.Seq
			case g.H.Stamp != f.H.Stamp:
				return g.H.Stamp < f.H.Stamp
			case g.At.Phys != f.At.Phys:
				return g.At.Phys < f.At.Phys
			}
			return g.At.Page < f.At.Page
		})
		if !beaten {
			return f, true
		}
	}
	return api.Found{}, false
}

func wordsNewest(pages, logical int, l []api.Found) []api.Place {
	var out []api.Place
	for p := range pages * logical {
		out = append(out, nowhere)
		if f, ok := newestOf(counting(pages, p, l)); ok {
			out[p] = f.At
		}
	}
	return out
}

// standsWith is the Seq with which a page stands at a place, or 0.
func standsWith(some []api.Found, place api.Place) int64 {
	var seq int64
	for _, f := range some {
		if f.At == place {
			seq = max(seq, f.H.Seq)
		}
	}
	return seq
}

// holds tells whether a block has each page of a logical block that has a place at its number, with the Seq that it has at its place.
func holds(pages int, newest []api.Place, block, phys int, l []api.Found) bool {
	some := 0
	for number := range pages {
		p := block*pages + number
		if newest[p].Phys == -1 {
			continue
		}
		some++
		of := counting(pages, p, l)
		seq := standsWith(of, newest[p])
		if seq == 0 || standsWith(of, at(phys, number)) != seq {
			return false
		}
	}
	return some > 0
}

func wordsBest(pages int, newest []api.Place, l []api.Found) []api.Place {
	out := slices.Clone(newest)
	for block := range len(newest) / pages {
		for phys := range 256 {
			if !holds(pages, newest, block, phys, l) {
				continue
			}
			for number := range pages {
				if p := block*pages + number; newest[p].Phys != -1 {
					out[p] = at(phys, number)
				}
			}
			break
		}
	}
	return out
}

func wordsNeeded(newest []api.Place) []int {
	var out []int
	for phys := range 256 {
		if slices.ContainsFunc(newest, func(p api.Place) bool { return p.Phys == phys && isOnChip(32, p) }) {
			out = append(out, phys)
		}
	}
	return out
}

func wordsSettled(pages int, newest []api.Place, block int) (int, bool) {
	for _, phys := range wordsNeeded(newest[block*pages : (block+1)*pages]) {
		ok := true
		for p, place := range newest {
			if !isOnChip(32, place) {
				continue
			}
			if p/pages == block {
				ok = ok && place == at(phys, p%pages)
			} else {
				ok = ok && place.Phys != phys
			}
		}
		if ok {
			return phys, true
		}
	}
	return 0, false
}

func wordsTable(pages, logical, k int, newest []api.Place) (api.Table, []int) {
	x := empty(pages, logical, k)
	var loose []int
	for block := range logical {
		phys, is := wordsSettled(pages, newest, block)
		some := false
		for number := range pages {
			has := isOnChip(32, newest[block*pages+number])
			some = some || has
			x.Have[block*pages+number] = is && has
		}
		if is {
			x.Data[block] = phys
		} else if some {
			loose = append(loose, block)
		}
	}
	return x, loose
}

// sized are sizes of which some hold few pages, so that much of what is found is of the same.
func (s *stream) sized() (pages, logical int) {
	return []int{4, 4, 4, 5, 7, 32}[s.below(6)], 1 + s.below(4)
}

// header is one of few, of which some may not be.
func (s *stream) header(pages, logical int) api.Header {
	seq := int64(1 + s.below(4))
	p := s.below(pages * logical)
	switch s.below(12) {
	case 0:
		return anchor(p, seq+3)
	case 1:
		return log(pages*logical+s.below(3), seq)
	case 2:
		bad := badHeaders(p)
		return bad[s.below(len(bad))].h
	case 3, 4, 5, 6:
		return log(p, seq)
	}
	return data(p, seq, seq+int64(s.below(3)))
}

// place is one of few, of which some are none of a chip.
func (s *stream) place(pages int) api.Place {
	if s.below(12) == 0 {
		return []api.Place{at(-1, s.below(pages)), at(256, s.below(pages)), at(s.below(6), -1), at(s.below(6), pages), at(s.below(6), 32)}[s.below(5)]
	}
	return at([]int{s.below(3), s.below(3), s.below(6), 255}[s.below(4)], s.below(pages))
}

// row is anything that was found.
func (s *stream) row(pages, logical int) []api.Found {
	var l []api.Found
	for range s.below(4 * pages * logical) {
		f := api.Found{At: s.place(pages), H: s.header(pages, logical)}
		if s.below(2) == 0 {
			// At its own number, so that some blocks have much of a logical block.
			f.At.Page = ((f.H.Page % pages) + pages) % pages
		}
		l = append(l, f)
	}
	// Some of it copied whole, as a merge does it.
	for range s.below(4) {
		block, phys := s.below(logical), s.below(6)
		for p := block * pages; p < (block+1)*pages; p++ {
			if f, ok := newestOf(counting(pages, p, l)); ok && s.below(20) > 0 {
				l = append(l, api.Found{At: at(phys, p%pages), H: data(p, f.H.Seq, f.H.Stamp+int64(s.below(3)))})
			}
		}
	}
	return l
}

// places are any, of which some logical blocks are settled.
func (s *stream) places(pages, logical int) []api.Place {
	l := places(pages*logical, nil)
	for block := range logical {
		phys, how := s.below(2*logical), s.below(5)
		for number := range pages {
			p := block*pages + number
			switch {
			case how == 0 || s.below(3) == 0:
			case how == 1:
				l[p] = s.place(pages)
			case how == 2 && s.below(10) == 0:
				l[p] = at(phys, s.below(pages))
			default:
				l[p] = at(phys, number)
			}
		}
	}
	return l
}

func TestP72Words(t *testing.T) {
	var s stream = 72
	moved := 0
	for range 4000 {
		pages, logical := s.sized()
		l := s.row(pages, logical)
		newest := scan.Newest(pages, logical, l...)
		if want := wordsNewest(pages, logical, l); !slices.Equal(newest, want) {
			t.Fatalf("Newest(%d, %d, %v): %v, want %v", pages, logical, l, newest, want)
		}
		ins := [][]api.Place{newest, newest[:s.below(len(newest)+1)]}
		if pages < 32 {
			ins = append(ins, s.places(pages, logical), append(s.places(pages, logical), at(1, 0)))
		}
		for _, in := range ins {
			got := scan.Best(pages, in, l...)
			if want := wordsBest(pages, in, l); !slices.Equal(got, want) {
				t.Fatalf("Best(%d, %v, %v): %v, want %v", pages, in, l, got, want)
			}
			if !slices.Equal(got, in) {
				moved++
			}
		}
	}
	if moved < 1000 {
		t.Errorf("but %d were moved", moved)
	}
}

func TestP73Words(t *testing.T) {
	var s stream = 73
	at0, at1, looseAt := 0, 0, 0
	for range 6000 {
		pages, logical := s.sized()
		in := s.places(pages, logical)
		tells(t, "Needed", scan.Needed(in), wordsNeeded(in)...)
		for block := range logical {
			phys, is := scan.Settled(pages, in, block)
			wantPhys, want := wordsSettled(pages, in, block)
			if phys != wantPhys || is != want {
				t.Fatalf("Settled(%d, %v, %d): %d, %v, want %d, %v", pages, in, block, phys, is, wantPhys, want)
			}
			if is {
				at1++
			} else {
				at0++
			}
		}
		k := 1 + s.below(8)
		want, loose := wordsTable(pages, logical, k, in)
		table(t, "any places", in, want, loose...)
		looseAt += len(loose)
	}
	if at0 < 1000 || at1 < 1000 || looseAt < 1000 {
		t.Error(at0, at1, looseAt)
	}
}

func TestP71Words(t *testing.T) {
	var s stream = 71
	for range 3000 {
		pages, logical := s.sized()
		l := s.row(pages, logical)
		var want int64
		for _, f := range l {
			if page.Check(f.H) == api.OK && f.H.Stamp > want {
				want = f.H.Stamp
			}
		}
		if got := scan.Greatest(l...); got != want {
			t.Fatalf("Greatest(%v): %d, want %d", l, got, want)
		}
	}
}

package mapjnl

import (
	"slices"

	"slipway/api"
)

const maxParts = (api.MaxBlocks + api.PartBlocks - 1) / api.PartBlocks

func within[T int | int64](n, least, most T) bool {
	return least <= n && n <= most
}

func checkBoth(a, b api.MapState) api.Errno {
	if e := Check(a); e != api.OK {
		return e
	}
	return Check(b)
}

func wearsMayBe(wears []int64) bool {
	return !slices.ContainsFunc(wears, func(wear int64) bool { return !within(wear, 0, api.MaxWear) })
}

func recordsMayBe(l []api.MapRecord) bool {
	return !slices.ContainsFunc(l, func(r api.MapRecord) bool { return !recordMayBe(r) })
}

func recordMayBe(r api.MapRecord) bool {
	switch r.Kind {
	case api.MrBad:
		return within(r.Block, 0, api.MaxBlocks-1) && r.Value == 0
	case api.MrWear:
		return within(r.Block, 0, api.MaxBlocks-1) && within(r.Value, 0, api.MaxWear)
	case api.MrSeq:
		return r.Block == 0 && within(r.Value, 0, api.MaxSeq)
	}
	return false
}

// pageMayBe asks of a page also that it has nothing of the other kind: bytes have no room for that.
func pageMayBe(p api.MapPage) bool {
	if !within(p.Gen, 0, api.MaxGen) {
		return false
	}
	switch p.Kind {
	case api.MpPart:
		return within(p.Part, 0, maxParts-1) && within(p.Seq, 0, api.MaxSeq) && within(len(p.Bad), 1, api.PartBlocks) &&
			len(p.Wear) == len(p.Bad) && wearsMayBe(p.Wear) && len(p.Records) == 0
	case api.MpRecords:
		return p.Part == 0 && p.Seq == 0 && len(p.Bad) == 0 && len(p.Wear) == 0 &&
			len(p.Records) <= api.MaxRecords && recordsMayBe(p.Records)
	}
	return false
}

// isOf tells whether a record that may be is about a block of s, or about none.
func isOf(s api.MapState, r api.MapRecord) bool {
	return r.Block < len(s.Bad)
}

func copied(s api.MapState) api.MapState {
	return api.MapState{Bad: slices.Clone(s.Bad), Wear: slices.Clone(s.Wear), Seq: s.Seq}
}

// learnPage raises s to what a page knows of it: the page may be of a larger chip.
func learnPage(s *api.MapState, p api.MapPage) {
	switch p.Kind {
	case api.MpPart:
		learnBlocks(s, p.Part*api.PartBlocks, p.Bad, p.Wear)
		learnSeq(s, p.Seq)
	case api.MpRecords:
		for _, r := range p.Records {
			if isOf(*s, r) {
				learnRecord(s, r)
			}
		}
	}
}

// learnBlocks raises the blocks of s from first on, as far as there are such.
func learnBlocks(s *api.MapState, first int, bad []bool, wear []int64) {
	for i := range min(len(bad), len(s.Bad)-first) {
		if bad[i] {
			s.Bad[first+i] = true
		}
		learnWear(s, first+i, wear[i])
	}
}

func learnRecord(s *api.MapState, r api.MapRecord) {
	switch r.Kind {
	case api.MrBad:
		s.Bad[r.Block] = true
	case api.MrWear:
		learnWear(s, r.Block, r.Value)
	case api.MrSeq:
		learnSeq(s, r.Value)
	}
}

func learnWear(s *api.MapState, block int, wear int64) {
	s.Wear[block] = max(s.Wear[block], wear)
}

func learnSeq(s *api.MapState, seq int64) {
	s.Seq = max(s.Seq, seq)
}

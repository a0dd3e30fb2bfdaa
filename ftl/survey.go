package ftl

import (
	"slices"

	"slipway/api"
	"slipway/mapjnl"
	"slipway/nand"
	"slipway/scan"
)

// survey is what stands on a chip, and what is known of it.
type survey struct {
	found [][]api.Found // of each block that is not bad
	books [][]sheet     // likewise
	state api.MapState
	gen   int64 // the greatest generation of records
}

// sheet is a page of records, and the sequence number with which it was written.
type sheet struct {
	page api.MapPage
	seq  int64
}

// look reads all pages of a chip.
func look(c *nand.Chip) survey {
	blocks := c.Geometry().Blocks
	s := survey{found: make([][]api.Found, blocks), books: make([][]sheet, blocks)}
	for block := range blocks {
		pages := read(c, block)
		for f := range scan.Pages(block, pages) {
			s.found[block] = append(s.found[block], f)
			if f.H.Kind != api.PgAnchor {
				continue
			}
			if p, e := mapjnl.Parse(pages[f.At.Page].Data[:]); e == api.OK {
				s.books[block] = append(s.books[block], sheet{page: p, seq: f.H.Seq})
			}
		}
	}
	s.learn(c)
	return s
}

// read is the pages of a block, if the chip does not call it bad.
func read(c *nand.Chip, block int) []api.Page {
	if l, _ := c.Look(block); l.Bad {
		return nil
	}
	pages := make([]api.Page, c.Geometry().Pages)
	for number := range pages {
		pages[number], _ = c.Read(block, number)
	}
	return pages
}

// learn takes over what records, chip and pages know, and leaves out what stands in bad blocks.
func (s *survey) learn(c *nand.Chip) {
	var pages []api.MapPage
	for _, book := range s.books {
		for _, sheet := range book {
			pages = append(pages, sheet.page)
		}
	}
	s.state, s.gen, _ = mapjnl.Replay(len(s.books), pages...)
	for block := range s.books {
		l, _ := c.Look(block)
		s.state.Bad[block] = s.state.Bad[block] || l.Bad
		// Pages that no disk wrote may say too much.
		s.state.Wear[block] = min(s.state.Wear[block], l.Wear)
		if s.state.Bad[block] {
			s.found[block], s.books[block] = nil, nil
		}
	}
	s.state.Seq = max(s.state.Seq, scan.Greatest(slices.Concat(s.found...)...))
}

// bad is the blocks that are bad.
func (s *survey) bad() []int {
	var blocks []int
	for block, is := range s.state.Bad {
		if is {
			blocks = append(blocks, block)
		}
	}
	return blocks
}

// newest is where the sectors of a disk stand: if a block has all of a logical block, there.
func (s *survey) newest(pages, logical int) []api.Place {
	found := slices.Concat(s.found...)
	return scan.Best(pages, scan.Newest(pages, logical, found...), found...)
}

// book is the block with the newest whole checkpoint, or none.
func (s *survey) book() int {
	block, newest := none, sheet{}
	for b, book := range s.books {
		for _, sheet := range book {
			if isNewer(sheet, newest) && isWhole(len(s.books), sheet.page.Gen, book) {
				block, newest = b, sheet
			}
		}
	}
	return block
}

func isNewer(a, b sheet) bool {
	if a.page.Gen != b.page.Gen {
		return a.page.Gen > b.page.Gen
	}
	return a.seq > b.seq
}

// isWhole tells whether a book has all parts of a generation's checkpoint.
func isWhole(blocks int, gen int64, book []sheet) bool {
	for part := range mapjnl.Parts(blocks) {
		isPart := func(s sheet) bool {
			return s.page.Kind == api.MpPart && s.page.Gen == gen && s.page.Part == part
		}
		if !slices.ContainsFunc(book, isPart) {
			return false
		}
	}
	return true
}

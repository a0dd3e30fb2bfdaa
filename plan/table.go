package plan

import (
	"slices"

	"slipway/api"
)

func within(n, least, most int) bool {
	return least <= n && n <= most
}

func sizesMayBe(pages, logical, k int) bool {
	return within(pages, api.MinPages, api.MaxPages) && within(logical, 1, api.MaxBlocks) && within(k, 1, api.MaxLogs)
}

// blocksMayBe tells whether all blocks that a table uses are some, and none is used twice.
func blocksMayBe(t api.Table) bool {
	blocks := blocksOf(t)
	for _, block := range blocks {
		if !within(block, 0, api.MaxBlocks-1) {
			return false
		}
	}
	return !hasTwice(blocks)
}

func haveMayBe(t api.Table) bool {
	for page, have := range t.Have {
		if have && t.Data[page/t.Pages] == none {
			return false
		}
	}
	return true
}

func seqMayBe(t api.Table) bool {
	if !hasSeq(t) {
		return t.Seq.Logical == 0 && t.Seq.Used == 0
	}
	return hasBlock(t, t.Seq.Logical) && within(t.Seq.Used, 0, t.Pages)
}

func logsMayBe(t api.Table) bool {
	var newest []int
	for n, log := range t.Logs {
		isLast := n == len(t.Logs)-1
		if len(log.Pages) > t.Pages || len(log.Pages) < t.Pages && !isLast {
			return false
		}
		for _, page := range log.Pages {
			if page == gone {
				continue
			}
			if !hasPage(t, page) {
				return false
			}
			newest = append(newest, page)
		}
	}
	return !hasTwice(newest)
}

// hasTwice tells whether a number is there twice; the list is lost by that.
func hasTwice(l []int) bool {
	slices.Sort(l)
	return len(slices.Compact(l)) < len(l)
}

// fit is t, or what a table that may not be counts as.
func fit(t api.Table) api.Table {
	if Check(t) != api.OK {
		t, _ = New(api.MinPages, 1, 1)
	}
	return t
}

// reach tells what keeps a call from a page of a table.
func reach(t api.Table, page int) api.Errno {
	if e := Check(t); e != api.OK {
		return e
	}
	if !hasPage(t, page) {
		return api.ErrArg
	}
	return api.OK
}

// reachFresh tells what keeps a call from taking a block that is not used.
func reachFresh(t api.Table, phys int) api.Errno {
	if e := Check(t); e != api.OK {
		return e
	}
	if !within(phys, 0, api.MaxBlocks-1) || slices.Contains(blocksOf(t), phys) {
		return api.ErrArg
	}
	return api.OK
}

func hasPage(t api.Table, page int) bool {
	return within(page, 0, t.Logical*t.Pages-1)
}

func hasBlock(t api.Table, block int) bool {
	return within(block, 0, t.Logical-1)
}

func hasSeq(t api.Table) bool {
	return t.Seq.Phys != none
}

// hasRoom tells whether there is a random log that takes a page more.
func hasRoom(t api.Table) bool {
	return len(t.Logs) > 0 && len(t.Logs[len(t.Logs)-1].Pages) < t.Pages
}

// isNext tells whether a page is the one that the sequential log goes on with.
func isNext(t api.Table, page int) bool {
	return hasSeq(t) && t.Seq.Logical == page/t.Pages && t.Seq.Used == page%t.Pages
}

// isOvertaken tells whether a random log has a page that the sequential one has: then that has an old copy.
func isOvertaken(t api.Table) bool {
	for _, log := range t.Logs {
		for _, page := range log.Pages {
			if isOf(t, page, t.Seq.Logical) && page%t.Pages < t.Seq.Used {
				return true
			}
		}
	}
	return false
}

// isOf tells whether a log's page is one of a logical block.
func isOf(t api.Table, page, block int) bool {
	// Asked for first: a page that is gone would be one of block 0 by division.
	return page != gone && page/t.Pages == block
}

// victim is the first page of the oldest random log that still is a newest copy, or gone.
func victim(t api.Table) int {
	if len(t.Logs) == 0 {
		return gone
	}
	for _, page := range t.Logs[0].Pages {
		if page != gone {
			return page
		}
	}
	return gone
}

// may tells whether the logs are such that a step of this kind can be done: what a kind needs beside the next one's needs stands ahead of that.
func may(t api.Table, kind int) bool {
	switch kind {
	case api.StSwitch:
		if t.Seq.Used < t.Pages {
			return false
		}
		fallthrough
	case api.StPartial:
		if isOvertaken(t) {
			return false
		}
		fallthrough
	case api.StFull:
		return hasSeq(t)
	case api.StOpenSeq:
		return !hasSeq(t)
	case api.StDrop:
		if victim(t) != gone {
			return false
		}
		fallthrough
	case api.StVictim:
		return len(t.Logs) > 0
	case api.StOpenRand:
		return len(t.Logs) < t.K && !hasRoom(t)
	}
	return kind == api.StRand && hasRoom(t)
}

// about is the logical block that a step of this kind is about, if a page of block is to be written.
func about(t api.Table, kind, block int) int {
	switch kind {
	case api.StOpenSeq:
		return block
	case api.StSwitch, api.StPartial, api.StFull:
		return t.Seq.Logical
	case api.StVictim:
		return victim(t) / t.Pages
	}
	return 0
}

// standing is where the newest copy of each page of a logical block stands (Phys none: nowhere).
func standing(t api.Table, block int) []api.Place {
	places := slices.Repeat([]api.Place{{Phys: none}}, t.Pages)
	inSeq := hasSeq(t) && t.Seq.Logical == block
	for number := range places {
		if t.Have[block*t.Pages+number] {
			places[number] = api.Place{Phys: t.Data[block], Page: number}
		}
		if inSeq && number < t.Seq.Used {
			places[number] = api.Place{Phys: t.Seq.Phys, Page: number}
		}
	}
	// Last, so that what a log has counts ahead of all else.
	for _, log := range t.Logs {
		for at, page := range log.Pages {
			if isOf(t, page, block) {
				places[page%t.Pages] = api.Place{Phys: log.Phys, Page: at}
			}
		}
	}
	return places
}

// blocksOf is the blocks that a table uses; a number of Data or Seq's that is none is left out.
func blocksOf(t api.Table) []int {
	var blocks []int
	for _, block := range t.Data {
		if block != none {
			blocks = append(blocks, block)
		}
	}
	if hasSeq(t) {
		blocks = append(blocks, t.Seq.Phys)
	}
	for _, log := range t.Logs {
		blocks = append(blocks, log.Phys)
	}
	return blocks
}

// merged is t when all that stands of a logical block stands in phys, and the blocks that are not used any more.
func merged(t api.Table, block, phys int) (api.Table, []int) {
	m := copied(t)
	// No truth is to be taken back: what the old data has stands somewhere, too.
	for c := range Fold(t, block) {
		m.Have[block*t.Pages+c.Page] = true
	}
	m.Data[block] = phys
	forget(m, func(page int) bool { return isOf(t, page, block) })
	if t.Seq.Logical == block {
		m.Seq = api.SeqLog{Phys: none}
	}
	still := Used(m)
	free := slices.DeleteFunc(Used(t), func(used int) bool {
		_, isUsed := slices.BinarySearch(still, used)
		return isUsed
	})
	return m, free
}

// forget takes pages from all logs of a table that is the caller's own.
func forget(t api.Table, which func(page int) bool) {
	for _, log := range t.Logs {
		for at, page := range log.Pages {
			if which(page) {
				log.Pages[at] = gone
			}
		}
	}
}

// appendPage appends to the last random log of a table that is the caller's own.
func appendPage(t api.Table, page int) {
	last := &t.Logs[len(t.Logs)-1]
	last.Pages = append(last.Pages, page)
}

func sameLog(a, b api.RandLog) bool {
	return a.Phys == b.Phys && slices.Equal(a.Pages, b.Pages)
}

// copied is a table in memory of its own, slice by slice.
func copied(t api.Table) api.Table {
	t.Data, t.Have, t.Logs = slices.Clone(t.Data), slices.Clone(t.Have), slices.Clone(t.Logs)
	for n, log := range t.Logs {
		t.Logs[n].Pages = slices.Clone(log.Pages)
	}
	return t
}

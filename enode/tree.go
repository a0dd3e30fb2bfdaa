package enode

import (
	"slices"

	"slipway/api"
	"slipway/extent"
)

type leaf = group[api.Extent]

type index = group[*leaf]

// tree is where a file's blocks stand: its extents, if they are few; else leaves; and indexes, if there are many leaves.
type tree struct {
	few     []api.Extent
	leaves  row[api.Extent]
	indexes row[*leaf]
}

// placed is a node, and where it stands.
type placed struct {
	block int
	node  api.Node
}

// levels is how many levels of nodes so many extents and leaves need.
func levels(extents, leaves int) int {
	switch {
	case extents <= api.MaxRoot:
		return 0
	case leaves <= api.MaxRoot:
		return 1
	}
	return 2
}

func (t tree) depth() int {
	switch {
	case len(t.indexes) > 0:
		return 2
	case len(t.leaves) > 0:
		return 1
	}
	return 0
}

func (t tree) extents() []api.Extent {
	return slices.Concat(t.few, t.leaves.items())
}

// root is what the inode has of the tree.
func (t tree) root() []api.Extent {
	switch t.depth() {
	case 0:
		return t.few
	case 1:
		return entriesOfLeaves(t.leaves)
	}
	return entriesOfIndexes(t.indexes)
}

func (t tree) blocks() []int {
	return slices.Concat(t.leaves.blocks(), t.indexes.blocks())
}

// nodes are all nodes, the lower ones first.
func (t tree) nodes() []placed {
	var l []placed
	for _, g := range t.leaves {
		l = append(l, placed{g.block, api.Node{Depth: 0, Entries: g.items}})
	}
	for _, g := range t.indexes {
		l = append(l, placed{g.block, api.Node{Depth: 1, Entries: entriesOfLeaves(g.items)}})
	}
	return l
}

// mayBe tells whether a tree whose nodes are ones may be.
func (t tree) mayBe() bool {
	all := t.extents()
	return extent.Check(all) == api.OK && apart(t.blocks(), all) &&
		t.depth() == levels(len(all), len(t.leaves)) && t.leaves.tight() && t.indexes.tight()
}

// become is the tree with other extents.
func (t tree) become(now []api.Extent) tree {
	leaves := t.leaves.become(now)
	indexes := t.indexes.become(leaves)
	switch levels(len(now), len(leaves)) {
	case 0:
		return tree{few: now}
	case 1:
		return tree{leaves: leaves}
	}
	return tree{leaves: leaves, indexes: indexes}
}

// settle gives each node that has no block one of these, and tells those that are left.
func (t tree) settle(blocks []int) []int {
	return t.indexes.settle(t.leaves.settle(blocks))
}

// apart tells whether nodes may stand in these blocks: on the disk, none twice, none in one of the extents.
func apart(blocks []int, l []api.Extent) bool {
	sorted := slices.Sorted(slices.Values(blocks))
	for i, block := range sorted {
		if !within(block, 1, api.MaxSectors-1) || i > 0 && block == sorted[i-1] {
			return false
		}
	}
	for _, e := range l {
		i, _ := slices.BinarySearch(sorted, e.Phys)
		if i < len(sorted) && sorted[i] < e.Phys+e.Len {
			return false
		}
	}
	return true
}

func entriesOfLeaves(l []*leaf) []api.Extent {
	var entries []api.Extent
	for _, g := range l {
		entries = append(entries, api.Extent{Logical: g.items[0].Logical, Phys: g.block})
	}
	return entries
}

func entriesOfIndexes(l []*index) []api.Extent {
	var entries []api.Extent
	for _, g := range l {
		entries = append(entries, api.Extent{Logical: g.items[0].items[0].Logical, Phys: g.block})
	}
	return entries
}

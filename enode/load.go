package enode

import (
	"slices"

	"slipway/api"
	"slipway/inode"
)

// reading is what was found of a tree so far.
type reading struct {
	s       api.Nodes
	had     map[int]api.Node // what stands in each node's block
	leaves  row[api.Extent]
	indexes row[*leaf]
	wrong   bool // something was found that may not be
}

// check tells whether the nodes of an inode can be asked for.
func check(s api.Nodes, x api.Inode) api.Errno {
	if s == nil {
		return api.ErrMade
	}
	if e := inode.Check(x); e != api.OK {
		return e
	}
	if x.Kind == api.KindFree {
		return api.ErrArg
	}
	return api.OK
}

// load reads the tree of an inode, and what stands in the nodes' blocks.
func load(s api.Nodes, x api.Inode) (tree, map[int]api.Node, api.Errno) {
	if e := check(s, x); e != api.OK {
		return tree{}, nil, e
	}
	if x.Depth == 0 {
		return tree{few: x.Root}, nil, api.OK
	}
	r := &reading{s: s, had: map[int]api.Node{}}
	for _, entry := range x.Root {
		if e := r.beneath(entry, x.Depth-1); e != api.OK {
			return tree{}, nil, e
		}
	}
	t := tree{leaves: r.leaves, indexes: r.indexes}
	if r.wrong || !t.mayBe() {
		return tree{}, nil, api.ErrNode
	}
	return t, r.had, api.OK
}

// beneath reads the node of an entry, and all that stands beneath it. It goes on behind a node that may not be, since an error of Read that comes later is the one to be told.
func (r *reading) beneath(entry api.Extent, depth int) api.Errno {
	n, is, e := read(r.s, entry.Phys)
	if e != api.OK {
		return e
	}
	r.had[entry.Phys] = n
	if !is || n.Depth != depth {
		r.wrong = true
		return api.OK
	}
	if n.Entries[0].Logical != entry.Logical {
		r.wrong = true
	}
	if depth == 0 {
		r.leaves = append(r.leaves, &leaf{block: entry.Phys, items: n.Entries})
		return api.OK
	}
	first := len(r.leaves)
	for _, below := range n.Entries {
		if e := r.beneath(below, depth-1); e != api.OK {
			return e
		}
	}
	r.indexes = append(r.indexes, &index{block: entry.Phys, items: slices.Clone(r.leaves[first:])})
	return api.OK
}

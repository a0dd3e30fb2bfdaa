package enode

import (
	"maps"
	"slices"

	"slipway/api"
)

// caught is what a call of Nodes answers. They may be ones that their own calls do not expect: if one panics, it is as if no call had made them.
func caught(call func() api.Errno) (e api.Errno) {
	defer func() {
		if recover() != nil {
			e = api.ErrMade
		}
	}()
	return call()
}

// read is the node in a block, and whether it is one.
func read(s api.Nodes, block int) (n api.Node, is bool, e api.Errno) {
	e = caught(func() api.Errno {
		b, fault := s.Read(block)
		if fault == api.OK {
			decoded, wrong := Decode(b)
			n, is = decoded, wrong == api.OK
		}
		return fault
	})
	return n, is, e
}

func write(s api.Nodes, p placed) api.Errno {
	b, e := Encode(p.node)
	if e != api.OK {
		return e
	}
	return caught(func() api.Errno { return s.Write(p.block, b) })
}

// alloc is so many fresh blocks; if one can't be had, the others go back.
func alloc(s api.Nodes, many int) ([]int, api.Errno) {
	var blocks []int
	for range many {
		e := caught(func() api.Errno {
			block, fault := s.Alloc()
			if fault == api.OK {
				blocks = append(blocks, block)
			}
			return fault
		})
		if e != api.OK {
			return nil, giveBack(s, blocks, e)
		}
	}
	return blocks, api.OK
}

func free(s api.Nodes, blocks []int) api.Errno {
	for _, block := range blocks {
		if e := caught(func() api.Errno { return s.Free(block) }); e != api.OK {
			return e
		}
	}
	return api.OK
}

// giveBack frees blocks that are of no use as another call failed: its error is told, unless they can't be freed, since nothing may be allocated with that one.
func giveBack(s api.Nodes, blocks []int, of api.Errno) api.Errno {
	if e := free(s, blocks); e != api.OK {
		return e
	}
	return of
}

// replace makes the nodes that s has those of a tree. What is missing is allocated ahead of all else, so that nothing is changed where there is no room.
func replace(s api.Nodes, had map[int]api.Node, now tree) api.Errno {
	if len(now.indexes) > api.MaxRoot {
		return api.ErrFull
	}
	kept := now.blocks()
	missing := len(now.nodes()) - len(kept)
	spare := others(had, kept)
	fresh, e := alloc(s, missing-len(spare))
	if e != api.OK {
		return e
	}
	spare = append(spare, fresh...)
	// Neither what was put nor what Alloc answers need be apart from the nodes.
	if !apart(slices.Concat(kept, spare[:missing]), now.extents()) {
		return giveBack(s, fresh, api.ErrNode)
	}
	spare = now.settle(spare)
	for _, p := range now.nodes() {
		if e := change(s, had[p.block], p); e != api.OK {
			return e
		}
	}
	return free(s, spare)
}

// change writes a node, if it is not what stood in its block.
func change(s api.Nodes, was api.Node, now placed) api.Errno {
	if was.Depth == now.node.Depth && slices.Equal(was.Entries, now.node.Entries) {
		return api.OK
	}
	return write(s, now)
}

// others are the blocks that had a node and are not kept, rising.
func others(had map[int]api.Node, kept []int) []int {
	left := maps.Clone(had)
	for _, block := range kept {
		delete(left, block)
	}
	return slices.Sorted(maps.Keys(left))
}

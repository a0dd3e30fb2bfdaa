package enode

import (
	"slices"

	"slipway/api"
)

// group is what one node has: a leaf's extents, or an index's leaves.
type group[T comparable] struct {
	block int // where the node stands; none, while there is no such block yet
	items []T
}

// row is all nodes of one level, from left to right.
type row[T comparable] []*group[T]

// none is no block: a node never stands there.
const none = 0

// items are those of all nodes, from left to right.
func (r row[T]) items() []T {
	parts := make([][]T, len(r))
	for i, g := range r {
		parts[i] = g.items
	}
	return slices.Concat(parts...)
}

// tight tells whether no two nodes that stand side by side could be one.
func (r row[T]) tight() bool {
	for i, g := range r {
		if i > 0 && r[i-1].hasRoom(g) {
			return false
		}
	}
	return true
}

// become is the row with other items. What it had at either end and still has stays in its node; all else comes into the node around it.
func (r row[T]) become(now []T) row[T] {
	if len(r) == 0 {
		r = row[T]{{}}
	}
	was := r.items()
	from := common(was, now)
	to := len(was) - commonBehind(was[from:], now[from:])
	fresh := now[from : len(now)-(len(was)-to)]
	var l row[T]
	at, last := 0, r.around(from, to)
	for i, g := range r {
		n := len(g.items)
		ahead, behind := g.items[:clamp(from-at, n)], g.items[clamp(to-at, n):]
		at += n
		if i == last {
			ahead = slices.Concat(ahead, fresh)
		}
		g.items = slices.Concat(ahead, behind)
		for _, part := range g.split() {
			l = l.add(part)
		}
	}
	return l
}

// around is the number of the node that has item from, or, if no item is to go, the one ahead of it.
func (r row[T]) around(from, to int) int {
	if from == to {
		from--
	}
	for i, g := range r {
		from -= len(g.items)
		if from < 0 {
			return i
		}
	}
	return 0
}

// add is the row with one more node behind it, or with its items in the last one, if that has room for them.
func (r row[T]) add(g *group[T]) row[T] {
	if len(r) == 0 || !r[len(r)-1].hasRoom(g) {
		return append(r, g)
	}
	last := r[len(r)-1]
	last.items = slices.Concat(last.items, g.items)
	return r
}

// blocks are those that the nodes have.
func (r row[T]) blocks() []int {
	var l []int
	for _, g := range r {
		if g.block != none {
			l = append(l, g.block)
		}
	}
	return l
}

// settle gives each node that has no block one of these, and tells those that are left.
func (r row[T]) settle(blocks []int) []int {
	for _, g := range r {
		if g.block == none {
			g.block, blocks = blocks[0], blocks[1:]
		}
	}
	return blocks
}

// hasRoom tells whether the items of another node can stand in this one, too.
func (g *group[T]) hasRoom(other *group[T]) bool {
	return len(g.items)+len(other.items) <= api.MaxEntries
}

// split is no node, if this one is empty; it, if it may be; else ones of about the same length, of which the first one stands where it stood.
func (g *group[T]) split() []*group[T] {
	all := g.items
	many := (len(all) + api.MaxEntries - 1) / api.MaxEntries
	var parts []*group[T]
	for i := range many {
		part := g
		if i > 0 {
			part = &group[T]{}
		}
		part.items = all[len(all)*i/many : len(all)*(i+1)/many]
		parts = append(parts, part)
	}
	return parts
}

// common is how many items two lists have in common ahead of the first one that is not the same.
func common[T comparable](a, b []T) int {
	n := 0
	for n < len(a) && n < len(b) && a[n] == b[n] {
		n++
	}
	return n
}

// commonBehind is how many items two lists have in common behind the last one that is not the same.
func commonBehind[T comparable](a, b []T) int {
	n := 0
	for n < len(a) && n < len(b) && a[len(a)-1-n] == b[len(b)-1-n] {
		n++
	}
	return n
}

func clamp(n, most int) int {
	return max(0, min(n, most))
}

package enode

import (
	"slipway/api"
	"slipway/extent"
	"slipway/seal"
)

// The widths of fields, in bits.

func headWidths() []int { return []int{16, 8, 8} } // the magic number, Depth, how many entries

func entryWidths() []int { return []int{24, 16, 32} } // Logical, Len, Phys

// Encode is a node as it is to stand on a disk.
func Encode(n api.Node) ([]byte, api.Errno) {
	if !nodeMayBe(n) {
		return nil, api.ErrNode
	}
	b := make([]byte, api.PageLen)
	at := put(b, 0, headWidths(), api.NodeMagic, uint64(n.Depth), uint64(len(n.Entries)))
	for _, entry := range n.Entries {
		at = put(b, at, entryWidths(), uint64(entry.Logical), uint64(entry.Len), uint64(entry.Phys))
	}
	return b, api.OK
}

// Decode is the node that Encode made b of.
func Decode(b []byte) (api.Node, api.Errno) {
	if len(b) != api.PageLen {
		return api.Node{}, api.ErrNode
	}
	head, at := take(b, 0, headWidths())
	if head[0] != api.NodeMagic || head[2] > api.MaxEntries {
		return api.Node{}, api.ErrNode
	}
	n := api.Node{Depth: int(head[1]), Entries: make([]api.Extent, head[2])}
	for i := range n.Entries {
		var entry []uint64
		entry, at = take(b, at, entryWidths())
		n.Entries[i] = api.Extent{Logical: int(entry[0]), Len: int(entry[1]), Phys: int(entry[2])}
	}
	if !nodeMayBe(n) || !zeros(b[at:]) {
		return api.Node{}, api.ErrNode
	}
	return n, api.OK
}

func nodeMayBe(n api.Node) bool {
	if len(n.Entries) < 1 || len(n.Entries) > api.MaxEntries {
		return false
	}
	switch n.Depth {
	case 0:
		return extent.Check(n.Entries) == api.OK
	case 1:
		return entriesMayBe(n.Entries)
	}
	return false
}

func entriesMayBe(l []api.Extent) bool {
	for i, entry := range l {
		if entry.Len != 0 || !within(entry.Logical, 0, api.MaxFileBlocks-1) || !within(entry.Phys, 1, api.MaxSectors-1) {
			return false
		}
		if i > 0 && entry.Logical <= l[i-1].Logical {
			return false
		}
	}
	return true
}

func within(n, least, most int) bool {
	return least <= n && n <= most
}

func zeros(b []byte) bool {
	return seal.Zeros(b) == 8*len(b)
}

// put copies values into their place in b, and tells the place behind them. All fit: the node may be.
func put(b []byte, at int, widths []int, values ...uint64) int {
	packed, _ := seal.Pack(widths, values...)
	return at + copy(b[at:], packed)
}

// take is the values at a place of b, and the place behind them. There are enough bytes, and the widths fill whole ones, so that nothing can be wrong.
func take(b []byte, at int, widths []int) ([]uint64, int) {
	n, _ := seal.Width(widths)
	values, _ := seal.Unpack(widths, b[at:at+n])
	return values, at + n
}

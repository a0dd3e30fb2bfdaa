package jfmt

import (
	"bytes"

	"slipway/api"
	"slipway/seal"
)

const (
	superMagic = 0x534c4a30
	superLen   = api.PageLen - 4 // bytes of the first block ahead of the seal
	magicLen   = 4
)

// The widths of fields, in bits.

func superWidths() []int { return []int{32, 32, 64} } // the magic number, Start, Seq

func magicWidths() []int { return []int{32} }

func headWidths() []int { return []int{32, 8, 64, 8} } // the magic number, Kind, Seq, how many there are

func tagWidths() []int { return []int{32, 8} } // Block, Escaped

func revokedWidths() []int { return []int{32} }

// EncodeSuper is the journal's first block as it is to stand on a disk.
func EncodeSuper(s api.JSuper) ([]byte, api.Errno) {
	if !within(s.Start, 0, api.MaxJournal-1) || !within(s.Seq, 1, api.MaxJrSeq) {
		return nil, api.ErrArg
	}
	b := make([]byte, superLen)
	put(b, 0, superWidths(), superMagic, uint64(s.Start), uint64(s.Seq))
	return seal.Seal(b)
}

// DecodeSuper is the first block that EncodeSuper made b of.
func DecodeSuper(b []byte) (api.JSuper, api.Errno) {
	if len(b) != api.PageLen {
		return api.JSuper{}, api.ErrJournal
	}
	fields, _ := take(b, 0, superWidths())
	s := api.JSuper{Start: int(fields[1]), Seq: int64(fields[2])}
	// The magic number, the seal and the zeros, which s has no field for, are told by holding b against the bytes of what was read.
	again, e := EncodeSuper(s)
	if e != api.OK || !bytes.Equal(again, b) {
		return api.JSuper{}, api.ErrJournal
	}
	return s, api.OK
}

// Encode is a block that is no copy, as it is to stand in the journal.
func Encode(x api.JBlock) ([]byte, api.Errno) {
	if !within(x.Seq, 1, api.MaxJrSeq) || !fieldsMayBe(x) {
		return nil, api.ErrJournal
	}
	return lay(x), api.OK
}

// Decode is the block that Encode made b of.
func Decode(b []byte) (api.JBlock, api.Errno) {
	if len(b) != api.PageLen {
		return api.JBlock{}, api.ErrJournal
	}
	x := read(b)
	// The magic number, the zeros, and a number that goes with nothing, are told by holding b against the bytes of what was read.
	again, e := Encode(x)
	if e != api.OK || !bytes.Equal(again, b) {
		return api.JBlock{}, api.ErrJournal
	}
	return x, api.OK
}

// Escape is a copy as it is to stand in the journal, where it must not look like a block that is none, and whether it is another one for that.
func Escape(b []byte) ([]byte, bool) {
	escaped := bytes.Clone(b)
	if !bytes.HasPrefix(b, magic()) {
		return escaped, false
	}
	clear(escaped[:magicLen])
	return escaped, true
}

// Unescape is the bytes that Escape was given.
func Unescape(b []byte, escaped bool) []byte {
	data := bytes.Clone(b)
	if escaped && len(data) >= magicLen {
		copy(data, magic())
	}
	return data
}

// fieldsMayBe tells whether a block has what its kind has, and nothing else.
func fieldsMayBe(x api.JBlock) bool {
	blocks := x.Revoked
	switch x.Kind {
	case api.JrDesc:
		if len(x.Revoked) > 0 || len(x.Tags) > api.MaxTags {
			return false
		}
		// Its tags are blocks as revoked ones are: what is left to ask is the same.
		blocks, x.Tags = blocksOf(x.Tags), nil
		fallthrough
	case api.JrRevoke:
		return len(x.Tags) == 0 && x.Count == 0 && within(len(blocks), 1, api.MaxRevs) && blocksMayBe(blocks)
	case api.JrCommit:
		return len(x.Tags) == 0 && len(x.Revoked) == 0 && within(x.Count, 1, api.MaxJournal)
	}
	return false
}

func blocksOf(tags []api.JTag) []int {
	blocks := make([]int, len(tags))
	for i, tag := range tags {
		blocks[i] = tag.Block
	}
	return blocks
}

func blocksMayBe(blocks []int) bool {
	for _, block := range blocks {
		if !within(block, 0, api.MaxSectors-1) {
			return false
		}
	}
	return true
}

// lay is the bytes of a block that may be.
func lay(x api.JBlock) []byte {
	b := make([]byte, api.PageLen)
	// A block has one of the three alone.
	many := len(x.Tags) + len(x.Revoked) + x.Count
	at := put(b, 0, headWidths(), api.JrMagic, uint64(x.Kind), uint64(x.Seq), uint64(many))
	for _, tag := range x.Tags {
		at = put(b, at, tagWidths(), uint64(tag.Block), bit(tag.Escaped))
	}
	for _, block := range x.Revoked {
		at = put(b, at, revokedWidths(), uint64(block))
	}
	return b
}

// read is the block that bytes tell, which may be or not; more tags or revoked blocks than there is room for are left out.
func read(b []byte) api.JBlock {
	head, at := take(b, 0, headWidths())
	x := api.JBlock{Kind: int(head[1]), Seq: int64(head[2])}
	many := int(head[3])
	var fields []uint64
	switch x.Kind {
	case api.JrDesc:
		for range min(many, api.MaxTags) {
			fields, at = take(b, at, tagWidths())
			x.Tags = append(x.Tags, api.JTag{Block: int(fields[0]), Escaped: fields[1] == 1})
		}
	case api.JrRevoke:
		for range min(many, api.MaxRevs) {
			fields, at = take(b, at, revokedWidths())
			x.Revoked = append(x.Revoked, int(fields[0]))
		}
	case api.JrCommit:
		x.Count = many
	}
	return x
}

// magic is the magic number as a block begins with it.
func magic() []byte {
	b := make([]byte, magicLen)
	put(b, 0, magicWidths(), api.JrMagic)
	return b
}

func bit(is bool) uint64 {
	if is {
		return 1
	}
	return 0
}

// put copies values into their place in b, and tells the place behind them. All fit: what is laid may be.
func put(b []byte, at int, widths []int, values ...uint64) int {
	packed, _ := seal.Pack(widths, values...)
	return at + copy(b[at:], packed)
}

// take is the values at a place of b, and the place behind them.
func take(b []byte, at int, widths []int) ([]uint64, int) {
	n, _ := seal.Width(widths)
	values, _ := seal.Unpack(widths, b[at:at+n])
	return values, at + n
}

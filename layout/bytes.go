package layout

import (
	"bytes"

	"slipway/api"
	"slipway/seal"
)

const (
	superMagic = 0x534c4950
	superLen   = api.PageLen - 4 // bytes of the superblock ahead of the seal
	maxMounts  = 1 << 60
)

// The widths of fields, in bits.

func superWidths() []int { return []int{32, 32, 16, 8, 32, 64} } // the magic number, Blocks, Journal, Clean, Orphan, Mounts

func descWidths() []int { return []int{16, 16, 16} } // Blocks, Inodes, Dirs

// EncodeSuper is the superblock as it is to stand on a disk.
func EncodeSuper(s api.Super) ([]byte, api.Errno) {
	if e := Check(s.Shape); e != api.OK {
		return nil, e
	}
	if !within(s.Orphan, 0, Inodes(s.Shape)) || !within(s.Mounts, 0, maxMounts) {
		return nil, api.ErrArg
	}
	clean := uint64(0)
	if s.Clean {
		clean = 1
	}
	fields, e := seal.Pack(superWidths(), superMagic, uint64(s.Shape.Blocks), uint64(s.Shape.Journal), clean, uint64(s.Orphan), uint64(s.Mounts))
	if e != api.OK {
		return nil, e
	}
	ahead := make([]byte, superLen)
	copy(ahead, fields)
	return seal.Seal(ahead)
}

// DecodeSuper is the superblock that EncodeSuper made b of.
func DecodeSuper(b []byte) (api.Super, api.Errno) {
	if len(b) != api.PageLen {
		return api.Super{}, api.ErrSuper
	}
	s := readSuper(b)
	// The magic number, the seal and the zeros, which s has no field for, are told by holding b against the bytes of what was read.
	again, e := EncodeSuper(s)
	if e != api.OK || !bytes.Equal(again, b) {
		return api.Super{}, api.ErrSuper
	}
	return s, api.OK
}

// EncodeDescs is a block of descriptors as it is to stand on a disk.
func EncodeDescs(l ...api.Desc) ([]byte, api.Errno) {
	if len(l) > descsPerBlock {
		return nil, api.ErrArg
	}
	b := make([]byte, api.PageLen)
	for i, d := range l {
		// Pack refuses, with ErrArg, just the numbers that may not be: those that have not room in their bits.
		fields, e := seal.Pack(descWidths(), uint64(d.Blocks), uint64(d.Inodes), uint64(d.Dirs))
		if e != api.OK {
			return nil, e
		}
		copy(b[i*api.DescLen:], fields)
	}
	return b, api.OK
}

// DecodeDescs is the n descriptors that EncodeDescs made b of.
func DecodeDescs(b []byte, n int) ([]api.Desc, api.Errno) {
	if !within(n, 0, descsPerBlock) {
		return nil, api.ErrArg
	}
	if len(b) != api.PageLen {
		return nil, api.ErrSuper
	}
	l := readDescs(b, n)
	// Bytes that must be 0 are told by holding b against the bytes of what was read.
	again, e := EncodeDescs(l...)
	if e != api.OK || !bytes.Equal(again, b) {
		return nil, api.ErrSuper
	}
	return l, api.OK
}

// readSuper is what the fields of a block say, whether it may be or not.
func readSuper(b []byte) api.Super {
	fields := take(b, superWidths())
	return api.Super{
		Shape:  api.Shape{Blocks: int(fields[1]), Journal: int(fields[2])},
		Orphan: int(fields[4]),
		Clean:  fields[3] == 1,
		Mounts: int64(fields[5]),
	}
}

// readDescs is what the fields of a block's first n descriptors say.
func readDescs(b []byte, n int) []api.Desc {
	var l []api.Desc
	for i := range n {
		fields := take(b[i*api.DescLen:], descWidths())
		l = append(l, api.Desc{Blocks: int(fields[0]), Inodes: int(fields[1]), Dirs: int(fields[2])})
	}
	return l
}

// take is the values that b begins with. b is long enough, and the widths fill whole bytes, so that nothing can be wrong.
func take(b []byte, widths []int) []uint64 {
	n, _ := seal.Width(widths)
	values, _ := seal.Unpack(widths, b[:n])
	return values
}

package inode

import (
	"bytes"

	"slipway/api"
	"slipway/seal"
)

const (
	headFields  = 8 // Kind, Depth, how many of Root, 0, Links, Size, Next, Gen
	entryFields = 3 // Logical, Len, Phys
	allFields   = headFields + entryFields*api.MaxRoot
)

// Encode is an inode as it is to stand on a disk.
func Encode(x api.Inode) ([]byte, api.Errno) {
	if e := Check(x); e != api.OK {
		return nil, e
	}
	bits, values := widths(), fields(x)
	packed, e := seal.Pack(bits[:], values[:]...)
	if e != api.OK {
		return nil, e
	}
	b := make([]byte, api.InodeLen)
	copy(b, packed)
	return b, api.OK
}

// Decode is the inode that Encode made b of.
func Decode(b []byte) (api.Inode, api.Errno) {
	if len(b) != api.InodeLen {
		return api.Inode{}, api.ErrInode
	}
	x := read(b)
	// Bytes that must be 0, and a count that is too great, are told by holding b against the bytes of what was read.
	again, e := Encode(x)
	if e != api.OK || !bytes.Equal(again, b) {
		return api.Inode{}, api.ErrInode
	}
	return x, api.OK
}

// widths are how many bits each field has.
func widths() [allFields]int {
	bits := [allFields]int{8, 8, 8, 8, 32, 64, 32, 32}
	for i := headFields; i < allFields; i += entryFields {
		bits[i], bits[i+1], bits[i+2] = 24, 16, 32
	}
	return bits
}

// fields are the values of an inode that may be.
func fields(x api.Inode) [allFields]uint64 {
	values := [allFields]uint64{uint64(x.Kind), uint64(x.Depth), uint64(len(x.Root)), 0, uint64(x.Links), uint64(x.Size), uint64(x.Next), uint64(x.Gen)}
	for i, entry := range x.Root {
		at := headFields + i*entryFields
		values[at], values[at+1], values[at+2] = uint64(entry.Logical), uint64(entry.Len), uint64(entry.Phys)
	}
	return values
}

// read is what the fields of InodeLen bytes say, whether it may be or not.
func read(b []byte) api.Inode {
	bits := widths()
	// There are enough bytes, and the widths fill whole ones, so that nothing can be wrong.
	n, _ := seal.Width(bits[:])
	values, _ := seal.Unpack(bits[:], b[:n])
	x := api.Inode{
		Kind:  int(values[0]),
		Depth: int(values[1]),
		Links: int(values[4]),
		Size:  int64(values[5]),
		Next:  int(values[6]),
		Gen:   int64(values[7]),
	}
	for i := range min(values[2], api.MaxRoot) {
		entry := values[headFields+i*entryFields:]
		x.Root = append(x.Root, api.Extent{Logical: int(entry[0]), Len: int(entry[1]), Phys: int(entry[2])})
	}
	return x
}

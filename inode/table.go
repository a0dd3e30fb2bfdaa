package inode

import (
	"bytes"
	"iter"

	"slipway/api"
)

// Get is the inode in a slot of a table.
func Get(table []byte, slot int) (api.Inode, api.Errno) {
	b, e := place(table, slot)
	if e != api.OK {
		return api.Inode{}, e
	}
	return Decode(b)
}

// Put is a table with an inode in a slot.
func Put(table []byte, slot int, x api.Inode) ([]byte, api.Errno) {
	if _, e := place(table, slot); e != api.OK {
		return nil, e
	}
	b, e := Encode(x)
	if e != api.OK {
		return nil, e
	}
	now := bytes.Clone(table)
	copy(now[slot*api.InodeLen:], b)
	return now, api.OK
}

// All goes through the slots of a table whose inodes are in use, and the inodes.
func All(table []byte) iter.Seq2[int, api.Inode] {
	// What the owner of table writes later must not be told.
	was := bytes.Clone(table)
	return func(yield func(int, api.Inode) bool) {
		for slot, b := range places(was) {
			x, e := Decode(b)
			if e == api.OK && x.Kind != api.KindFree && !yield(slot, x) {
				return
			}
		}
	}
}

// places goes through the slots of a table, and the bytes in them.
func places(table []byte) iter.Seq2[int, []byte] {
	return func(yield func(int, []byte) bool) {
		for slot := range api.PerBlock {
			b, e := place(table, slot)
			if e != api.OK || !yield(slot, b) {
				return
			}
		}
	}
}

// place is the bytes in a slot, as they stand in the table.
func place(table []byte, slot int) ([]byte, api.Errno) {
	if len(table) != api.PageLen || !within(slot, 0, api.PerBlock-1) {
		return nil, api.ErrArg
	}
	return table[slot*api.InodeLen : (slot+1)*api.InodeLen], api.OK
}

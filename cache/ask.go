package cache

import (
	"bytes"

	"slipway/api"
)

// caught is what a call of a disk answers. A disk of another make may be one that its own calls do not expect: if it panics, it is as if no call had made it.
func caught(call func() api.Errno) (e api.Errno) {
	defer func() {
		if recover() != nil {
			e = api.ErrMade
		}
	}()
	return call()
}

func size(d api.Disk) int {
	n := 0
	caught(func() api.Errno {
		n = d.Size()
		return api.OK
	})
	return n
}

// read is a block's bytes in memory of their own: those that a disk of another make answers may be the disk's.
func read(d api.Disk, block int) (data []byte, e api.Errno) {
	e = caught(func() api.Errno {
		b, fault := d.Read(block)
		data = bytes.Clone(b)
		return fault
	})
	return data, e
}

// missing tells whether there is no disk, or one that no call made: that has no sectors, but must be told from a disk which merely has none.
func missing(d api.Disk) bool {
	if d == nil {
		return true
	}
	if size(d) > 0 {
		return false
	}
	_, e := read(d, 0)
	return e == api.ErrMade
}

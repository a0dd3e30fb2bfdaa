package disk

import (
	"bytes"
	"iter"
	"slices"

	"slipway/api"
)

// Image is all sectors of a disk, of whatever make.
func Image(d api.Disk) ([][]byte, api.Errno) {
	return gather(d)
}

// Of is a disk with these sectors.
func Of(image ...[]byte) (*RAM, api.Errno) {
	d, e := New(len(image))
	if e != api.OK {
		return nil, e
	}
	for i, b := range image {
		if len(b) != api.PageLen {
			return nil, api.ErrArg
		}
		copy(d.sectors[i].data[:], b)
	}
	return d, api.OK
}

// Same tells whether all of two disks can be read, and is the same.
func Same(a, b api.Disk) bool {
	one, e := Image(a)
	if e != api.OK {
		return false
	}
	other, e := Image(b)
	return e == api.OK && slices.EqualFunc(one, other, bytes.Equal)
}

// gather is what a disk's reads come to, up to the first error.
func gather(d api.Disk) (image [][]byte, e api.Errno) {
	defer func() {
		// A disk of another make may be a nil that its own calls do not expect.
		if recover() != nil {
			image, e = nil, api.ErrMade
		}
	}()
	if missing(d) {
		return nil, api.ErrMade
	}
	for b, fault := range reads(d) {
		if fault != api.OK {
			return nil, fault
		}
		// Another make's bytes may be that disk's own.
		image = append(image, bytes.Clone(b))
	}
	return image, api.OK
}

// missing tells whether there is no disk, or one that no call made: that has no sectors, but must be told from a disk which merely has none.
func missing(d api.Disk) bool {
	if d == nil {
		return true
	}
	if d.Size() > 0 {
		return false
	}
	_, e := d.Read(0)
	return e == api.ErrMade
}

// reads goes through a disk from sector 0 on, and reads each one when it comes to it.
func reads(d api.Disk) iter.Seq2[[]byte, api.Errno] {
	return func(yield func([]byte, api.Errno) bool) {
		for sector := range d.Size() {
			if !yield(d.Read(sector)) {
				return
			}
		}
	}
}

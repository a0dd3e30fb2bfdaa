package cache

import (
	"bytes"

	"slipway/api"
)

// clean is the class of a buffer that has what the disk has.
const clean = 0

// buffer has a block's bytes.
type buffer struct {
	block int
	data  []byte
	class int
	pins  int
	older *buffer // used just ahead of this one
	newer *buffer // used just behind it
}

// ring is one without buffers: the ends alone.
func ring() *buffer {
	ends := &buffer{}
	ends.older, ends.newer = ends, ends
	return ends
}

// unlink closes the ring where b stood.
func (b *buffer) unlink() {
	b.older.newer, b.newer.older = b.newer, b.older
}

// linkAhead makes b the one that was used just ahead of another.
func (b *buffer) linkAhead(of *buffer) {
	b.older, b.newer = of.older, of
	b.older.newer, of.older = b, b
}

// mayGo tells whether a buffer may make room for another.
func (b *buffer) mayGo() bool {
	return b.pins == 0 && b.class != api.ClMeta
}

// use makes a buffer the one that was used most recently.
func (c *Cache) use(b *buffer) {
	b.unlink()
	b.linkAhead(c.ends)
}

// add is a fresh buffer of a block that has none, where there is room.
func (c *Cache) add(block int) *buffer {
	b := &buffer{block: block}
	b.linkAhead(c.ends)
	c.buffers[block] = b
	return b
}

// drop lets a block's buffer go as it is, if it has one.
func (c *Cache) drop(block int) {
	if b := c.buffers[block]; b != nil {
		b.unlink()
		delete(c.buffers, block)
	}
}

// fetch is a block's buffer, which is used: one that is read from the disk, if there is none yet.
func (c *Cache) fetch(block int) (*buffer, api.Errno) {
	if e := c.check(block); e != api.OK {
		return nil, e
	}
	if b := c.buffers[block]; b != nil {
		c.use(b)
		return b, api.OK
	}
	if e := c.makeRoom(); e != api.OK {
		return nil, e
	}
	data, e := read(c.disk, block)
	if e != api.OK {
		return nil, e
	}
	b := c.add(block)
	b.data = data
	return b, api.OK
}

// makeRoom lets the least recently used buffer go that may, if there is no room for one more.
func (c *Cache) makeRoom() api.Errno {
	if len(c.buffers) < c.room {
		return api.OK
	}
	b := c.ends.newer
	for b != c.ends && !b.mayGo() {
		b = b.newer
	}
	if b == c.ends {
		return api.ErrPins
	}
	if b.class != clean {
		if e := c.home(b); e != api.OK {
			return e
		}
	}
	c.drop(b.block)
	return api.OK
}

// home writes a buffer to the disk, and it is clean; with an error it stays dirty.
func (c *Cache) home(b *buffer) api.Errno {
	// A disk of another make may keep the bytes that it is given.
	data := bytes.Clone(b.data)
	e := caught(func() api.Errno { return c.disk.Write(b.block, data) })
	if e == api.OK {
		b.class = clean
	}
	return e
}

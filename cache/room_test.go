package cache_test

import (
	"slices"
	"testing"

	"slipway/api"
	"slipway/cache"
)

// newcomers are the calls by which a buffer comes to be.
func newcomers() map[string]func(*cache.Cache, int) api.Errno {
	return map[string]func(*cache.Cache, int) api.Errno{
		"Read": func(c *cache.Cache, block int) api.Errno {
			_, e := c.Read(block)
			return e
		},
		"Write": func(c *cache.Cache, block int) api.Errno { return c.Write(block, fill(99), api.ClData) },
		"Pin":   func(c *cache.Cache, block int) api.Errno { return c.Pin(block) },
	}
}

// upTo is the numbers from 0 on, but some.
func upTo(n int, but ...int) []int {
	var l []int
	for i := range n {
		if !slices.Contains(but, i) {
			l = append(l, i)
		}
	}
	return l
}

// Example 1 of the chapter.
func TestRoomExample(t *testing.T) {
	d, c := begun(t, 20, 8)
	writes(t, c, api.ClData, 0, 1, 2, 3, 4, 5, 6, 7)
	d.seen(t)
	writes(t, c, api.ClData, 8)
	d.seen(t, ask{"write", 0})
	holds(t, c, 20, 1, 2, 3, 4, 5, 6, 7, 8)
	stands(t, d, 0, numbered(1000))

	d, c = begun(t, 20, 8)
	writes(t, c, api.ClMeta, 0, 1, 2, 3, 4, 5, 6, 7)
	is(t, "Write", c.Write(8, fill(1), api.ClMeta), api.ErrPins)
	is(t, "Write", c.Write(8, fill(1), api.ClData), api.ErrPins)
	holds(t, c, 20, 0, 1, 2, 3, 4, 5, 6, 7)
	dirty(t, c, api.ClMeta, 0, 1, 2, 3, 4, 5, 6, 7)
	d.seen(t)
}

// Where there is room, none goes; where there is none, just one, whatever the room.
func TestRoomOneByOne(t *testing.T) {
	for _, room := range []int{8, 9, 13, api.MaxRoom} {
		for name, come := range newcomers() {
			d, c := begun(t, room+5, room)
			for block := range room {
				reads(t, c, block, numbered(block))
			}
			is(t, name, c.Len(), room)
			for i := range 5 {
				ok(t, name, come(c, room+i))
				is(t, name, c.Len(), room)
				is(t, name, c.Has(i), false)
				is(t, name, c.Has(i+1), true)
			}
			is(t, "Writes", d.Writes(), 0)
		}
	}
}

// The blocks are used once more, in another order: in that order they go.
func TestRoomByUse(t *testing.T) {
	order := []int{4, 1, 7, 0, 6, 2, 5, 3}
	for used, use := range newcomers() {
		for came, come := range newcomers() {
			_, c := begun(t, 40, 8)
			for block := range 8 {
				reads(t, c, block, numbered(block))
			}
			for _, block := range order {
				ok(t, used, use(c, block))
			}
			// Where the use was a Pin, they may go again.
			for block := range 8 {
				c.Unpin(block)
			}
			for i := range order {
				ok(t, came, come(c, 20+i))
				want := slices.Clone(order[i+1:])
				for k := range i + 1 {
					want = append(want, 20+k)
				}
				holds(t, c, 40, want...)
			}
		}
	}
}

// One that is used once more goes behind all the others.
func TestRoomOneUse(t *testing.T) {
	for used, use := range newcomers() {
		for block := range 8 {
			_, c := begun(t, 20, 8)
			for i := range 8 {
				reads(t, c, i, numbered(i))
			}
			ok(t, used, use(c, block))
			c.Unpin(block)
			there := append(upTo(8, block), block)
			for i := range 8 {
				reads(t, c, 10+i, numbered(10+i))
				there = append(there[1:], 10+i)
				holds(t, c, 20, slices.Clone(there)...)
			}
		}
	}
}

// None of these is a use: block 0 goes all the same.
func TestRoomNoUse(t *testing.T) {
	calls := map[string]func(*spy, *cache.Cache){
		"Write of too few bytes": func(_ *spy, c *cache.Cache) { is(t, "Write", c.Write(0, fill(1)[1:], 1), api.ErrArg) },
		"Write of no class":      func(_ *spy, c *cache.Cache) { is(t, "Write", c.Write(0, fill(1), 3), api.ErrArg) },
		"Unpin without a pin":    func(_ *spy, c *cache.Cache) { is(t, "Unpin", c.Unpin(0), api.ErrNone) },
		"Has, Pins":              func(_ *spy, c *cache.Cache) { is(t, "Pins", c.Has(0), c.Pins(0) == 0) },
		"Clean":                  func(_ *spy, c *cache.Cache) { ok(t, "Clean", c.Clean(0, 0)) },
		"Sync":                   func(_ *spy, c *cache.Cache) { ok(t, "Sync", c.Sync(api.ClData)) },
		"Dirty": func(_ *spy, c *cache.Cache) {
			for range c.Dirty(api.ClData) {
			}
		},
		"Forget with an error": func(_ *spy, c *cache.Cache) { is(t, "Forget", c.Forget(0, 20), api.ErrArg) },
		"Clean with an error": func(d *spy, c *cache.Cache) {
			d.fault[ask{"write", 0}] = api.ErrIo
			if slices.Contains(slices.Collect(c.Dirty(api.ClData)), 0) {
				is(t, "Clean", c.Clean(0), api.ErrIo)
			}
			clear(d.fault)
		},
	}
	for name, call := range calls {
		for _, class := range []int{0, api.ClData} {
			t.Run(name, func(t *testing.T) {
				d, c := begun(t, 20, 8)
				for block := range 8 {
					reads(t, c, block, numbered(block))
					if class != 0 {
						writes(t, c, class, block)
					}
				}
				call(d, c)
				reads(t, c, 8, numbered(8))
				holds(t, c, 20, upTo(9, 0)...)
			})
		}
	}
}

// Unpin is none, either: what counts is the use ahead of it.
func TestRoomUnpinIsNoUse(t *testing.T) {
	_, c := begun(t, 20, 8)
	for block := range 8 {
		ok(t, "Pin", c.Pin(block))
	}
	for _, block := range []int{5, 2, 7, 0, 1, 3, 4, 6} {
		ok(t, "Unpin", c.Unpin(block))
	}
	for i := range 8 {
		reads(t, c, 10+i, numbered(10+i))
		is(t, "Has", c.Has(i), false)
		is(t, "Len", c.Len(), 8)
	}
}

// A call of another block that ends with an error leaves the order as it was.
func TestRoomErrorIsNoUse(t *testing.T) {
	d, c := begun(t, 20, 8)
	writes(t, c, api.ClData, 0, 1, 2, 3, 4, 5, 6, 7)
	d.fault[ask{"write", 0}] = api.ErrIo
	for name, come := range newcomers() {
		is(t, name, come(c, 10), api.ErrIo)
		holds(t, c, 20, upTo(8)...)
	}
	clear(d.fault)
	d.asked = nil
	for i := range 8 {
		reads(t, c, 10+i, numbered(10+i))
		d.seen(t, ask{"write", i}, ask{"read", 10 + i})
	}
}

// Each set of buffers that may not go: the least recently used of the others goes, or none.
func TestRoomWhoMayGo(t *testing.T) {
	keepers := map[string]func(*cache.Cache, int){
		"meta":            func(c *cache.Cache, block int) { writes(t, c, api.ClMeta, block) },
		"pinned":          func(c *cache.Cache, block int) { ok(t, "Pin", c.Pin(block)) },
		"pinned and data": func(c *cache.Cache, block int) { writes(t, c, api.ClData, block); ok(t, "Pin", c.Pin(block)) },
		"pinned and meta": func(c *cache.Cache, block int) { ok(t, "Pin", c.Pin(block)); writes(t, c, api.ClMeta, block) },
	}
	for name, keep := range keepers {
		for came, come := range newcomers() {
			for set := range 1 << 8 {
				d, c := begun(t, 20, 8)
				var gone []int
				for block := range 8 {
					if set>>block&1 == 1 {
						keep(c, block)
					} else {
						reads(t, c, block, numbered(block))
						gone = append(gone, block)
					}
				}
				e := come(c, 10)
				if len(gone) == 0 {
					is(t, name+" "+came, e, api.ErrPins)
					holds(t, c, 20, upTo(8)...)
				} else {
					is(t, name+" "+came, e, api.OK)
					holds(t, c, 20, append(upTo(8, gone[0]), 10)...)
				}
				is(t, "Writes", d.Writes(), 0)
			}
		}
	}
}

// What may not go may, when it is clean, or has no pin any more, or is dirty of ClData.
func TestRoomMayGoAgain(t *testing.T) {
	frees := map[string]func(*cache.Cache){
		"Clean": func(c *cache.Cache) { ok(t, "Clean", c.Clean(3)) },
		"Sync":  func(c *cache.Cache) { ok(t, "Sync", c.Sync(api.ClMeta)); writes(t, c, api.ClMeta, upTo(8, 3)...) },
		"Write": func(c *cache.Cache) { writes(t, c, api.ClData, 3) },
		"Forget": func(c *cache.Cache) {
			ok(t, "Forget", c.Forget(3))
		},
	}
	for name, free := range frees {
		for came, come := range newcomers() {
			d, c := begun(t, 20, 8)
			writes(t, c, api.ClMeta, upTo(8)...)
			is(t, came, come(c, 10), api.ErrPins)
			free(c)
			ok(t, name+" "+came, come(c, 10))
			holds(t, c, 20, append(upTo(8, 3), 10)...)
			if name != "Forget" {
				stands(t, d, 3, numbered(1003))
			}
		}
	}
	// With two pins it is pinned still when one of them is gone.
	_, c := begun(t, 20, 8)
	for block := range 8 {
		ok(t, "Pin", c.Pin(block))
		ok(t, "Pin", c.Pin(block))
	}
	fails(t, c, 10, api.ErrPins)
	ok(t, "Unpin", c.Unpin(6))
	fails(t, c, 10, api.ErrPins)
	ok(t, "Unpin", c.Unpin(6))
	reads(t, c, 10, numbered(10))
	holds(t, c, 20, append(upTo(8, 6), 10)...)
	// What came by a Read, or a Write of ClData, goes again.
	writes(t, c, api.ClData, 11)
	ok(t, "Pin", c.Pin(12))
	is(t, "Write", c.Write(13, fill(1), api.ClData), api.ErrPins)
}

// A dirty one is written ahead of its going, then the disk is read: in that order.
func TestRoomDirtyGoesHome(t *testing.T) {
	for name, come := range newcomers() {
		d, c := begun(t, 20, 8)
		writes(t, c, api.ClMeta, 0)
		writes(t, c, api.ClData, 1)
		for block := 2; block < 8; block++ {
			reads(t, c, block, numbered(block))
		}
		d.asked = nil
		ok(t, name, come(c, 10))
		if name == "Write" {
			d.seen(t, ask{"write", 1})
		} else {
			d.seen(t, ask{"write", 1}, ask{"read", 10})
		}
		stands(t, d, 1, numbered(1001))
		stands(t, d, 0, numbered(0))
		dirty(t, c, api.ClMeta, 0)
		// The next one is clean: nothing is written for it.
		ok(t, name, come(c, 11))
		is(t, "Writes", d.Writes(), 1)
		holds(t, c, 20, 0, 3, 4, 5, 6, 7, 10, 11)
		// What went home is read from there.
		reads(t, c, 1, numbered(1001))
	}
}

// Nothing goes where the block has a buffer.
func TestRoomNotNeeded(t *testing.T) {
	for name, come := range newcomers() {
		for _, class := range []int{api.ClData, api.ClMeta} {
			d, c := begun(t, 20, 8)
			writes(t, c, class, upTo(8)...)
			for block := range 8 {
				ok(t, name, come(c, block))
			}
			holds(t, c, 20, upTo(8)...)
			d.seen(t)
		}
	}
}

// ErrArg comes ahead of what making room would say.
func TestRoomArgFirst(t *testing.T) {
	d, c := begun(t, 20, 8)
	writes(t, c, api.ClMeta, upTo(8)...)
	for name, come := range newcomers() {
		is(t, name, come(c, 20), api.ErrArg)
		is(t, name, come(c, -1), api.ErrArg)
		is(t, name, come(c, 10), api.ErrPins)
	}
	is(t, "Write", c.Write(10, nil, api.ClData), api.ErrArg)
	is(t, "Write", c.Write(10, fill(1), 0), api.ErrArg)
	d.seen(t)
	// And ErrPins ahead of what the disk would say.
	d.Hurt(10)
	fails(t, c, 10, api.ErrPins)
	is(t, "Pin", c.Pin(10), api.ErrPins)
	d.seen(t)
}

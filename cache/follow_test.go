package cache_test

import (
	"bytes"
	"slices"
	"testing"

	"slipway/api"
	"slipway/cache"
	"slipway/disk"
)

// buffer and model are what a cache is, by the words of the chapter: a list, the least recently used one first, over a disk of its own.
type buffer struct {
	block int
	data  []byte
	class int
	pins  int
}

type model struct {
	d    *disk.RAM
	room int
	list []buffer
}

func (m *model) mayBe(block int) bool { return block >= 0 && block < m.d.Size() }

func (m *model) at(block int) int {
	return slices.IndexFunc(m.list, func(b buffer) bool { return b.block == block })
}

// used puts a buffer to the end, as it is now.
func (m *model) used(b buffer) {
	if i := m.at(b.block); i >= 0 {
		m.list = slices.Delete(m.list, i, i+1)
	}
	m.list = append(m.list, b)
}

func (m *model) makeRoom() api.Errno {
	if len(m.list) < m.room {
		return api.OK
	}
	for i, b := range m.list {
		if b.pins > 0 || b.class == api.ClMeta {
			continue
		}
		if b.class == api.ClData {
			if e := m.d.Write(b.block, b.data); e != api.OK {
				return e
			}
		}
		m.list = slices.Delete(m.list, i, i+1)
		return api.OK
	}
	return api.ErrPins
}

func (m *model) read(block, pins int) ([]byte, api.Errno) {
	if !m.mayBe(block) {
		return nil, api.ErrArg
	}
	if i := m.at(block); i >= 0 {
		b := m.list[i]
		b.pins += pins
		m.used(b)
		return b.data, api.OK
	}
	if e := m.makeRoom(); e != api.OK {
		return nil, e
	}
	data, e := m.d.Read(block)
	if e == api.OK {
		m.used(buffer{block: block, data: data, pins: pins})
	}
	return data, e
}

func (m *model) write(block int, data []byte, class int) api.Errno {
	if !m.mayBe(block) || len(data) != api.PageLen || class != api.ClData && class != api.ClMeta {
		return api.ErrArg
	}
	b := buffer{block: block}
	if i := m.at(block); i >= 0 {
		b = m.list[i]
	} else if e := m.makeRoom(); e != api.OK {
		return e
	}
	b.data, b.class = data, class
	m.used(b)
	return api.OK
}

func (m *model) unpin(block int) api.Errno {
	if !m.mayBe(block) {
		return api.ErrArg
	}
	i := m.at(block)
	if i < 0 || m.list[i].pins == 0 {
		return api.ErrNone
	}
	m.list[i].pins--
	return api.OK
}

func (m *model) clean(blocks ...int) api.Errno {
	for _, block := range blocks {
		if !m.mayBe(block) {
			return api.ErrArg
		}
		i := m.at(block)
		if i < 0 || m.list[i].class == 0 {
			continue
		}
		if m.list[i].pins > 0 {
			return api.ErrPin
		}
		if e := m.d.Write(block, m.list[i].data); e != api.OK {
			return e
		}
		m.list[i].class = 0
	}
	return api.OK
}

func (m *model) dirty(class int, pinned bool) []int {
	var l []int
	for _, b := range m.list {
		if b.class != 0 && b.class == class && (pinned || b.pins == 0) {
			l = append(l, b.block)
		}
	}
	slices.Sort(l)
	return l
}

func (m *model) sync(class int) api.Errno {
	if class != api.ClData && class != api.ClMeta {
		return api.ErrArg
	}
	if e := m.clean(m.dirty(class, false)...); e != api.OK {
		return e
	}
	return m.d.Flush()
}

func (m *model) forget(blocks ...int) api.Errno {
	for _, block := range blocks {
		if !m.mayBe(block) {
			return api.ErrArg
		}
	}
	m.list = slices.DeleteFunc(m.list, func(b buffer) bool { return slices.Contains(blocks, b.block) })
	return api.OK
}

// pair is a cache and its disk, and what they must be.
type pair struct {
	c *cache.Cache
	d *disk.RAM
	m *model
}

func paired(t *testing.T, sectors, room int) *pair {
	d, c := begun(t, sectors, room)
	return &pair{c, d.RAM, &model{d: d.RAM.Clone(), room: room}}
}

// deed is a call: which one, and what it is given.
type deed struct {
	kind   int
	blocks []int
	class  int
	data   []byte
}

const (
	doRead = iota
	doWrite
	doPin
	doUnpin
	doClean
	doSync
	doFlush
	doForget
	doCut
	doRestart
	doHurt
)

// deed is any one of the kinds, of which some may not be.
func (s *stream) deed(sectors, n int, kinds ...int) deed {
	g := deed{kind: kinds[s.below(len(kinds))], class: 1 + s.below(2), data: numbered(n)}
	for range 1 + s.below(4) {
		block := s.below(sectors)
		if s.below(40) == 0 {
			block = []int{-1, sectors}[s.below(2)]
		}
		g.blocks = append(g.blocks, block)
	}
	switch s.below(40) {
	case 0:
		g.class = 3 * s.below(2)
	case 1:
		g.data = g.data[1:]
	}
	return g
}

// calls is the deed done to a cache.
func calls(c *cache.Cache, g deed) ([]byte, api.Errno) {
	block := g.blocks[0]
	switch g.kind {
	case doRead:
		return c.Read(block)
	case doWrite:
		return nil, c.Write(block, g.data, g.class)
	case doPin:
		return nil, c.Pin(block)
	case doUnpin:
		return nil, c.Unpin(block)
	case doClean:
		return nil, c.Clean(g.blocks...)
	case doSync:
		return nil, c.Sync(g.class)
	case doFlush:
		return nil, c.Flush()
	case doForget:
		return nil, c.Forget(g.blocks...)
	}
	return nil, api.OK
}

// calls is the deed done to a model.
func (m *model) calls(g deed) ([]byte, api.Errno) {
	block := g.blocks[0]
	switch g.kind {
	case doRead:
		return m.read(block, 0)
	case doWrite:
		return nil, m.write(block, g.data, g.class)
	case doPin:
		_, e := m.read(block, 1)
		return nil, e
	case doUnpin:
		return nil, m.unpin(block)
	case doClean:
		return nil, m.clean(g.blocks...)
	case doSync:
		return nil, m.sync(g.class)
	case doFlush:
		return nil, m.d.Flush()
	case doForget:
		return nil, m.forget(g.blocks...)
	}
	return nil, api.OK
}

// does is the deed done to both, held against each other.
func (p *pair) does(t *testing.T, g deed) api.Errno {
	t.Helper()
	p.toDisk(g)
	got, e := calls(p.c, g)
	want, f := p.m.calls(g)
	if e != f || !bytes.Equal(got, want) {
		t.Fatalf("%v: %d, %x, not %d, %x", g, e, got, f, want)
	}
	return e
}

// toDisk is what happens to the disks alone.
func (p *pair) toDisk(g deed) {
	for _, d := range []*disk.RAM{p.d, p.m.d} {
		switch g.kind {
		case doCut:
			d.CutAfter(int(g.data[0]) % 6)
		case doRestart:
			d.Restart()
		case doHurt:
			d.Hurt(g.blocks[0])
		}
	}
}

// holds is all that both tell of themselves.
func (p *pair) holds(t *testing.T) {
	t.Helper()
	is(t, "Len", p.c.Len(), len(p.m.list))
	if p.c.Len() > p.m.room {
		t.Fatalf("%d buffers, with room for %d", p.c.Len(), p.m.room)
	}
	for block := -1; block <= p.m.d.Size(); block++ {
		pins, i := 0, p.m.at(block)
		if i >= 0 {
			pins = p.m.list[i].pins
		}
		is(t, "Has", p.c.Has(block), i >= 0)
		is(t, "Pins", p.c.Pins(block), pins)
	}
	for class := range 4 {
		dirty(t, p.c, class, p.m.dirty(class, true)...)
	}
	is(t, "Writes", p.d.Writes(), p.m.d.Writes())
	is(t, "On", p.d.On(), p.m.d.On())
}

// sameDisks is whether both disks have seen the same writes, and have the same.
func (p *pair) sameDisks(t *testing.T) {
	t.Helper()
	var all [2][]string
	for i, d := range []*disk.RAM{p.d.Clone(), p.m.d.Clone()} {
		for sector, b := range d.Log() {
			all[i] = append(all[i], string(rune('a'+sector))+string(b))
		}
		d.Restart()
		for sector := range d.Size() {
			b, e := d.Read(sector)
			all[i] = append(all[i], e.Error()+string(b))
		}
	}
	is(t, "the disks", slices.Equal(all[0], all[1]), true)
}

// Any rows of calls, the disk's faults among them, with just as much room as must be, and with more.
func TestAnyRow(t *testing.T) {
	kinds := []int{doRead, doRead, doRead, doWrite, doWrite, doWrite, doPin, doUnpin, doUnpin, doUnpin, doClean, doSync, doFlush, doForget, doCut, doRestart, doRestart, doHurt}
	errs := map[api.Errno]int{}
	for seed := range 120 {
		s := stream(seed*37 + 11)
		room := api.MinRoom + seed%3*3
		p := paired(t, room+1+s.below(15), room)
		for i := range 500 {
			errs[p.does(t, s.deed(p.d.Size(), i, kinds...))]++
			p.holds(t)
		}
		p.sameDisks(t)
	}
	// The rows are of no use if they do not come to all of it.
	for _, e := range []api.Errno{api.OK, api.ErrArg, api.ErrNone, api.ErrPower, api.ErrIo, api.ErrPins, api.ErrPin} {
		if errs[e] < 50 {
			t.Errorf("error %d came up %d times", e, errs[e])
		}
	}
}

// The same without forgetting, and with a disk that is well: what was written last is what is read, and what is home behind Sync.
func TestP105(t *testing.T) {
	kinds := []int{doRead, doRead, doWrite, doWrite, doWrite, doPin, doUnpin, doClean, doClean, doSync, doFlush}
	for seed := range 60 {
		s := stream(seed*91 + 7)
		sectors := api.MinRoom + 1 + s.below(20)
		d, c := begun(t, sectors, api.MinRoom)
		last := make([][]byte, sectors)
		for block := range last {
			last[block] = numbered(block)
		}
		for i := range 600 {
			g := s.deed(sectors, i+5000, kinds...)
			block := g.blocks[0]
			b, e := calls(c, g)
			if e == api.OK && g.kind == doRead && !bytes.Equal(b, last[block]) {
				t.Fatalf("Read(%d) is not what was written last", block)
			}
			if e == api.OK && g.kind == doWrite {
				last[block] = g.data
			}
			if i%50 == 0 {
				letGo(c, sectors)
				ok(t, "Sync", c.Sync(api.ClData))
				ok(t, "Sync", c.Sync(api.ClMeta))
				for block, want := range last {
					stands(t, d, block, want)
					reads(t, c, block, want)
				}
			}
		}
	}
}

// letGo takes back all pins.
func letGo(c *cache.Cache, sectors int) {
	for block := range sectors {
		for c.Pins(block) > 0 {
			c.Unpin(block)
		}
	}
}

// mark is what is known of a block ahead of a call.
type mark struct {
	meta, pinned bool
}

func TestP106AndP107(t *testing.T) {
	kinds := []int{doRead, doRead, doWrite, doWrite, doWrite, doPin, doUnpin, doUnpin, doClean, doSync, doFlush, doForget}
	for seed := range 60 {
		s := stream(seed*57 + 3)
		sectors := api.MinRoom + 1 + s.below(20)
		d, c := begun(t, sectors, api.MinRoom)
		for i := range 600 {
			g := s.deed(sectors, i, kinds...)
			ahead := make([]mark, sectors)
			for block := range ahead {
				ahead[block].pinned = c.Pins(block) > 0
			}
			for block := range c.Dirty(api.ClMeta) {
				ahead[block].meta = true
			}
			d.asked = nil
			calls(c, g)
			for _, a := range d.asked {
				m := mark{}
				if a.call == "write" {
					m = ahead[a.block]
				}
				if m.pinned || m.meta && g.kind != doClean && g.kind != doSync {
					t.Fatalf("block %d (%v) is written by %v", a.block, m, g)
				}
			}
			there := 0
			for block := range sectors {
				if c.Has(block) {
					there++
				}
			}
			is(t, "Len", c.Len(), there)
			if there > api.MinRoom {
				t.Fatalf("%d buffers, with room for %d", there, api.MinRoom)
			}
		}
	}
}

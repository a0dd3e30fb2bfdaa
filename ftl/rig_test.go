package ftl_test

import (
	"bytes"
	"encoding/binary"
	"os"
	"runtime/debug"
	"slices"
	"testing"

	"slipway/api"
	"slipway/ftl"
	"slipway/mapjnl"
	"slipway/nand"
	"slipway/page"
	"slipway/plan"
	"slipway/pool"
)

// Rows of writes make many pages that are soon dropped: to collect them at once would take longer than all else.
func TestMain(m *testing.M) {
	debug.SetGCPercent(800)
	os.Exit(m.Run())
}

// stream is a row of numbers that is the same each time.
type stream uint64

func (s *stream) next() uint64 {
	*s = *s*6364136223846793005 + 1442695040888963407
	return uint64(*s >> 33)
}

func (s *stream) below(n int) int { return int(s.next() % uint64(n)) }

func (s *stream) bytes(n int) []byte {
	b := make([]byte, n)
	for i := range b {
		b[i] = byte(s.next())
	}
	return b
}

func is[T comparable](t *testing.T, name string, got, want T) {
	t.Helper()
	if got != want {
		t.Errorf("%s: %v, not %v", name, got, want)
	}
}

// shape is a chip, and how a disk is laid out on it.
type shape struct {
	g       api.Geometry
	logs    int
	reserve int
}

var small = shape{g: api.Geometry{Blocks: 16, Pages: 4}, logs: 2, reserve: 2}

// content is what the write of a number puts into a sector; that of 0 is what a sector is ahead of all writes.
func content(sector, n int) []byte {
	if n == 0 {
		return make([]byte, api.PageLen)
	}
	s := stream(n*8192 + sector)
	b := s.bytes(api.PageLen)
	binary.BigEndian.PutUint32(b, uint32(n))
	return b
}

// rig is a disk on a chip, and what it must answer.
type rig struct {
	t *testing.T
	shape
	c      *nand.Chip
	f      *ftl.Ftl
	n      int     // how many writes were asked for
	may    [][]int // of each sector the writes that it may be; the first of them it is, if no power went
	ops    int64   // the most operations that a write without events took
	steps  [10]int // how often each step of plan.Want came up
	events bool    // there are some: writes take as many operations as they need
	full   bool    // the sequence numbers may come to their end
}

func rigged(t *testing.T, s shape, bad []int, events ...api.Event) *rig {
	t.Helper()
	c, e := nand.New(s.g, bad, events...)
	if e != api.OK {
		t.Fatal("New", e)
	}
	n, e := ftl.Sectors(s.g, s.logs, s.reserve)
	if e != api.OK {
		t.Fatal("Sectors", e)
	}
	r := &rig{t: t, shape: s, c: c, may: make([][]int, n), events: len(events) > 0}
	for sector := range r.may {
		r.may[sector] = []int{0}
	}
	return r
}

// format formats and mounts, without a cut.
func (r *rig) format() *rig {
	r.t.Helper()
	if e := ftl.Format(r.c, r.logs, r.reserve); e != api.OK {
		r.t.Fatal("Format", e)
	}
	return r.mount()
}

// mount mounts as often as it takes to get it through; r.f is nil, if there are too many bad blocks.
func (r *rig) mount() *rig {
	r.t.Helper()
	for {
		r.c.Restart()
		f, e := ftl.Mount(r.c, r.logs, r.reserve)
		switch e {
		case api.OK:
			r.f = f
			r.sure()
			r.right()
			return r
		case api.ErrPower:
			if f != nil || r.c.On() {
				r.t.Fatal("ErrPower beside a disk, or with power")
			}
		case api.ErrSmall:
			if r.f = nil; r.bad() <= r.reserve {
				r.t.Fatalf("ErrSmall with %d bad blocks of %d", r.bad(), r.reserve)
			}
			return r
		default:
			r.t.Fatal("Mount", e)
		}
	}
}

// bad is how many blocks are bad, as the chip and the records on it tell.
func (r *rig) bad() int {
	var sheets []api.MapPage
	bad := 0
	for block := range r.g.Blocks {
		l, _ := r.c.Look(block)
		if l.Bad {
			continue
		}
		for _, p := range r.c.Pages(block) {
			h, data, e := page.Decode(p)
			if m, e2 := mapjnl.Parse(data); e == api.OK && e2 == api.OK && h.Kind == api.PgAnchor {
				sheets = append(sheets, m)
			}
		}
	}
	s, _, _ := mapjnl.Replay(r.g.Blocks, sheets...)
	for block := range r.g.Blocks {
		if l, _ := r.c.Look(block); l.Bad || s.Bad[block] {
			bad++
		}
	}
	return bad
}

// sure reads all sectors behind a mount: whatever they are now, they stay.
func (r *rig) sure() {
	r.t.Helper()
	for sector, may := range r.may {
		b, e := r.f.Read(sector)
		i := slices.IndexFunc(may, func(n int) bool { return bytes.Equal(b, content(sector, n)) })
		if e != api.OK || i < 0 {
			r.t.Fatalf("sector %d behind a mount: %d, begins with %v, not one of %v", sector, e, b[:min(4, len(b))], may)
		}
		r.may[sector] = may[i : i+1]
	}
}

// all reads all sectors without a mount.
func (r *rig) all() {
	r.t.Helper()
	for sector, may := range r.may {
		if b, e := r.f.Read(sector); e != api.OK || !bytes.Equal(b, content(sector, may[0])) {
			r.t.Fatalf("sector %d: %d, begins with %v, not %d", sector, e, b[:min(4, len(b))], may[0])
		}
	}
}

// write writes a sector, and answers what Write did.
func (r *rig) write(sector int) api.Errno {
	r.t.Helper()
	r.n++
	if s, e := plan.Want(r.f.Table(), sector); e == api.OK {
		r.steps[s.Kind]++
	}
	was := r.c.Ops()
	e := r.f.Write(sector, content(sector, r.n))
	switch e {
	case api.OK:
		r.may[sector] = []int{r.n}
	case api.ErrPower:
		if r.c.On() {
			r.t.Fatal("ErrPower with power")
		}
		r.may[sector] = append(slices.Clone(r.may[sector]), r.n)
	case api.ErrOnly:
		// A program that failed may have put it there all the same: behind a mount it may be that.
		r.may[sector] = append(slices.Clone(r.may[sector]), r.n)
		if !r.f.Only() || pool.Count(r.f.Pool(), api.RoBad) <= r.reserve && !r.full {
			r.t.Fatalf("ErrOnly with %d blocks out of use", pool.Count(r.f.Pool(), api.RoBad))
		}
	default:
		r.t.Fatal("Write", e)
	}
	ops := r.c.Ops() - was
	if !r.events && ops > r.bound() {
		r.t.Fatalf("P8.7: %d operations", ops)
	}
	r.ops = max(r.ops, ops)
	r.right()
	return e
}

func (r *rig) bound() int64 {
	return int64((r.g.Pages+3)*(4*r.g.Pages+16) + 64)
}

// right is P8.6 and P8.7, and what else must agree within.
func (r *rig) right() {
	r.t.Helper()
	x, p, s := r.f.Table(), r.f.Pool(), r.f.State()
	if plan.Check(x) != api.OK || pool.Check(p) != api.OK || mapjnl.Check(s) != api.OK {
		r.t.Fatalf("P8.6: %d, %d, %d", plan.Check(x), pool.Check(p), mapjnl.Check(s))
	}
	is(r.t, "Pages", x.Pages, r.g.Pages)
	is(r.t, "Logical", x.Logical, len(r.may)/r.g.Pages)
	is(r.t, "K", x.K, r.logs)
	roles := make([]int, r.g.Blocks)
	for _, phys := range x.Data {
		if phys >= 0 {
			roles[phys] = api.RoData
		}
	}
	if x.Seq.Phys >= 0 {
		roles[x.Seq.Phys] = api.RoSeq
	}
	for _, l := range x.Logs {
		roles[l.Phys] = api.RoRand
	}
	for block, role := range p.Roles {
		isUsed := role == api.RoData || role == api.RoSeq || role == api.RoRand
		if roles[block] != 0 && role != roles[block] || isUsed && roles[block] == 0 {
			r.t.Fatalf("P8.6: block %d has the role %d, and is used as %d", block, role, roles[block])
		}
		l, _ := r.c.Look(block)
		if p.Wear[block] > l.Wear || l.Bad && role != api.RoBad {
			r.t.Fatalf("P8.7: block %d: %d, Wear %d, not %v", block, role, p.Wear[block], l)
		}
		if s.Bad[block] != (role == api.RoBad) || s.Wear[block] != p.Wear[block] {
			r.t.Fatalf("State %v of %v", s, p)
		}
	}
	if n := pool.Count(p, api.RoMap); n > 1 || n < 1 && !r.f.Only() {
		r.t.Fatalf("%d blocks have records", n)
	}
	if r.f.Only() && pool.Count(p, api.RoBad) <= r.reserve && !r.full {
		r.t.Fatalf("P8.5: read-only with %d blocks out of use", pool.Count(p, api.RoBad))
	}
}

// someEvents are events of such kinds, with gaps between them that are at most so great.
func someEvents(s *stream, first int64, gap, count int, kinds ...int) []api.Event {
	var l []api.Event
	at := first
	for range count {
		l = append(l, api.Event{At: at, Kind: kinds[s.below(len(kinds))], Mask: s.mask()})
		at += 1 + int64(s.below(gap))
	}
	return l
}

// mask is a mask that tears more or less; some leave a page whole, some erase it, some leave whole pages of a block.
func (s *stream) mask() []byte {
	switch s.below(6) {
	case 0:
		return nil
	case 1:
		return []byte{0xff}
	case 2:
		return []byte{1 << s.below(8)}
	case 3:
		// Over a block it runs on, so that some pages stay whole.
		m := make([]byte, api.MaxMask-s.below(3))
		m[s.below(len(m))] = byte(s.next())
		return m
	case 4:
		m := make([]byte, api.MaxMask)
		for i := range s.below(len(m)) {
			m[i] = 0xff
		}
		return m
	}
	return s.bytes(1 + s.below(api.MaxMask))
}

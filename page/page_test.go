package page_test

import (
	"bytes"
	"encoding/binary"
	"iter"
	"math"
	"slices"
	"testing"

	"slipway/api"
	"slipway/page"
)

const (
	pageBytes = api.PageLen + api.OobLen
	sealAt    = pageBytes - 4 // where the seal begins
)

// stream is a row of numbers that is the same each time.
type stream uint64

func (s *stream) next() uint64 {
	*s = *s*6364136223846793005 + 1442695040888963407
	return uint64(*s >> 33)
}

func (s *stream) below(n int) int { return int(s.next() % uint64(n)) }

func (s *stream) bytes(n int) []byte {
	b := make([]byte, n)
	for i := range b {
		b[i] = byte(s.next())
	}
	return b
}

// header is one that may be.
func (s *stream) header() api.Header {
	h := api.Header{Kind: 1 + s.below(3), Page: s.below(api.MaxLogical), Seq: 1 + int64(s.next()<<29^s.next())%api.MaxSeq}
	h.Stamp = h.Seq
	if h.Kind == api.PgData {
		h.Stamp += int64(s.next()) % (api.MaxSeq - h.Seq + 1)
	}
	return h
}

// raw is what stands in a header's fields, also what no header may have.
type raw struct {
	kind, second uint8
	page         uint32
	seq, stamp   uint64
	filling      [6]byte
}

// byHand is the bytes of a page, laid out and sealed without the program's help.
func byHand(r raw, data []byte) []byte {
	b := append(bytes.Clone(data), make([]byte, api.PageLen-len(data))...)
	b = append(b, r.kind, r.second)
	b = binary.BigEndian.AppendUint32(b, r.page)
	b = binary.BigEndian.AppendUint64(b, r.seq)
	b = binary.BigEndian.AppendUint64(b, r.stamp)
	return sealed(append(b, r.filling[:]...))
}

// sealed is b with the number of its 0 bits behind it.
func sealed(b []byte) []byte {
	n := 0
	for i := range 8 * len(b) {
		if b[i/8]>>(i%8)&1 == 0 {
			n++
		}
	}
	return binary.BigEndian.AppendUint32(bytes.Clone(b), uint32(n))
}

func rawOf(h api.Header) raw {
	return raw{kind: uint8(h.Kind), page: uint32(h.Page), seq: uint64(h.Seq), stamp: uint64(h.Stamp)}
}

func pageOf(b []byte) api.Page {
	var p api.Page
	copy(p.Data[:], b)
	copy(p.Oob[:], b[api.PageLen:])
	return p
}

func bytesOf(p api.Page) []byte {
	return append(bytes.Clone(p.Data[:]), p.Oob[:]...)
}

func mustEncode(t *testing.T, h api.Header, data []byte) api.Page {
	t.Helper()
	p, e := page.Encode(h, data)
	if e != api.OK {
		t.Fatalf("Encode(%v, %d bytes): %v", h, len(data), e)
	}
	return p
}

// refused fails if p is taken, or if something stands beside the error.
func refused(t *testing.T, name string, p api.Page, want api.Errno) {
	t.Helper()
	h, data, e := page.Decode(p)
	if e != want || h != (api.Header{}) || data != nil {
		t.Errorf("%s: Decode: %v, %d bytes, %v, want %v", name, h, len(data), e, want)
	}
	if e := page.State(p); e != want {
		t.Errorf("%s: State: %v, want %v", name, e, want)
	}
}

// goodHeaders may all be: ordinary ones, and the edges.
func goodHeaders() []api.Header {
	const last, most = api.MaxLogical - 1, api.MaxSeq
	return []api.Header{
		{Kind: api.PgData, Page: 77, Seq: 1 << 40, Stamp: 1<<40 + 3},
		{Kind: api.PgLog, Page: 5, Seq: 9, Stamp: 9},
		{Kind: api.PgAnchor, Page: 0, Seq: 12, Stamp: 12},
		{Kind: api.PgData, Page: 0, Seq: 1, Stamp: 1},
		{Kind: api.PgLog, Page: 0, Seq: 1, Stamp: 1},
		{Kind: api.PgAnchor, Page: 0, Seq: 1, Stamp: 1},
		{Kind: api.PgData, Page: last, Seq: 1, Stamp: 1},
		{Kind: api.PgLog, Page: last, Seq: 1, Stamp: 1},
		{Kind: api.PgAnchor, Page: last, Seq: 1, Stamp: 1},
		{Kind: api.PgData, Page: 1, Seq: 7, Stamp: 7},
		{Kind: api.PgData, Page: 1, Seq: 7, Stamp: 8},
		{Kind: api.PgData, Page: 1, Seq: 1, Stamp: most},
		{Kind: api.PgData, Page: 1, Seq: most - 1, Stamp: most},
		{Kind: api.PgData, Page: last, Seq: most, Stamp: most},
		{Kind: api.PgLog, Page: last, Seq: most, Stamp: most},
		{Kind: api.PgAnchor, Page: last, Seq: most, Stamp: most},
	}
}

// badHeaders may none of them be.
func badHeaders() []api.Header {
	const last, most = api.MaxLogical - 1, api.MaxSeq
	bad := []api.Header{
		{},
		{Kind: -1, Page: -1, Seq: -1, Stamp: -1},
		{Kind: 256 + api.PgData, Page: 1, Seq: 2, Stamp: 2},
		{Kind: math.MinInt, Page: 1, Seq: 2, Stamp: 2},
		{Kind: math.MaxInt, Page: 1, Seq: 2, Stamp: 2},
		{Kind: 0, Page: api.MaxLogical, Seq: 0, Stamp: most + 1},
	}
	for _, kind := range []int{-1, 0, api.PgAnchor + 1, 255, 256} {
		bad = append(bad, api.Header{Kind: kind, Page: 1, Seq: 2, Stamp: 2})
	}
	for _, kind := range []int{api.PgData, api.PgLog, api.PgAnchor} {
		for _, n := range []int{-1, api.MaxLogical, math.MinInt, math.MaxInt} {
			bad = append(bad, api.Header{Kind: kind, Page: n, Seq: 2, Stamp: 2})
		}
		for _, seq := range []int64{0, -1, most + 1, math.MinInt64, math.MaxInt64} {
			bad = append(bad, api.Header{Kind: kind, Page: 1, Seq: seq, Stamp: seq})
		}
		bad = append(bad,
			api.Header{Kind: kind, Page: 1, Seq: 0, Stamp: 1},
			api.Header{Kind: kind, Page: 1, Seq: -1, Stamp: 5},
			api.Header{Kind: kind, Page: 1, Seq: 7, Stamp: 6},
			api.Header{Kind: kind, Page: 1, Seq: 7, Stamp: 0},
			api.Header{Kind: kind, Page: 1, Seq: 7, Stamp: -7},
			api.Header{Kind: kind, Page: 1, Seq: 7, Stamp: most + 1},
			api.Header{Kind: kind, Page: 1, Seq: 7, Stamp: math.MaxInt64},
			api.Header{Kind: kind, Page: 1, Seq: most, Stamp: most - 1},
			api.Header{Kind: kind, Page: 1, Seq: most, Stamp: most + 1},
			api.Header{Kind: kind, Page: 1, Seq: most + 1, Stamp: most},
		)
	}
	for _, kind := range []int{api.PgLog, api.PgAnchor} {
		bad = append(bad,
			api.Header{Kind: kind, Page: 1, Seq: 1, Stamp: 2},
			api.Header{Kind: kind, Page: 0, Seq: 7, Stamp: 8},
			api.Header{Kind: kind, Page: last, Seq: 7, Stamp: most},
			api.Header{Kind: kind, Page: last, Seq: most - 1, Stamp: most},
		)
	}
	return bad
}

func TestP31Check(t *testing.T) {
	for _, h := range goodHeaders() {
		if e := page.Check(h); e != api.OK {
			t.Errorf("Check(%v) = %v", h, e)
		}
	}
	for _, h := range badHeaders() {
		if e := page.Check(h); e != api.ErrHeader {
			t.Errorf("Check(%v) = %v", h, e)
		}
	}
}

func TestP32EncodeExample(t *testing.T) {
	p := mustEncode(t, api.Header{Kind: api.PgLog, Page: 5, Seq: 9, Stamp: 9}, []byte("a"))
	if want := []byte{2, 0, 0, 0, 0, 5, 0, 0, 0, 0, 0, 0, 0, 9, 0, 0, 0, 0, 0, 0, 0, 9, 0, 0, 0, 0, 0, 0}; !bytes.Equal(p.Oob[:28], want) {
		t.Errorf("Oob begins %x", p.Oob[:28])
	}
	// 284 bytes of 8 bits less 3 of "a", 1 of Kind, 2 of Page, 2 of Seq and 2 of Stamp: 2262.
	if want := []byte{0, 0, 0x08, 0xd6}; !bytes.Equal(p.Oob[28:], want) {
		t.Errorf("Oob ends %x", p.Oob[28:])
	}
	if p.Data[0] != 'a' || !bytes.Equal(p.Data[1:], make([]byte, 255)) {
		t.Errorf("Data is %x", p.Data)
	}
}

func TestP32Encode(t *testing.T) {
	var s stream = 1
	for _, h := range goodHeaders() {
		for _, data := range [][]byte{nil, {}, {7}, {0}, {0xff}, s.bytes(255), s.bytes(256), bytes.Repeat([]byte{0xff}, 256)} {
			got, e := page.Encode(h, data)
			if e != api.OK || got != pageOf(byHand(rawOf(h), data)) {
				t.Errorf("Encode(%v, %d bytes) = %x, %v", h, len(data), bytesOf(got), e)
			}
		}
	}
}

func TestP32EncodeWrong(t *testing.T) {
	wrong := func(h api.Header, data []byte, want api.Errno) {
		t.Helper()
		if got, e := page.Encode(h, data); e != want || got != (api.Page{}) {
			t.Errorf("Encode(%v, %d bytes) = %x, %v, want %v", h, len(data), bytesOf(got), e, want)
		}
	}
	for _, h := range goodHeaders() {
		wrong(h, make([]byte, 257), api.ErrLong)
		wrong(h, make([]byte, 1<<16), api.ErrLong)
	}
	for _, h := range badHeaders() {
		wrong(h, nil, api.ErrHeader)
		wrong(h, []byte("data"), api.ErrHeader)
		wrong(h, make([]byte, 256), api.ErrHeader)
		wrong(h, make([]byte, 257), api.ErrHeader) // ahead of the length
	}
}

func TestP32Decode(t *testing.T) {
	var s stream = 2
	for _, h := range goodHeaders() {
		for _, data := range [][]byte{nil, {7}, s.bytes(255), s.bytes(256), bytes.Repeat([]byte{0xff}, 256)} {
			b := byHand(rawOf(h), data)
			p := pageOf(b)
			got, all, e := page.Decode(p)
			if e != api.OK || got != h || !bytes.Equal(all, b[:api.PageLen]) {
				t.Errorf("%v, %d bytes: %v, %d bytes, %v", h, len(data), got, len(all), e)
			}
			if e := page.State(p); e != api.OK {
				t.Errorf("%v, %d bytes: State: %v", h, len(data), e)
			}
		}
	}
}

// What is sealed as it should be, but by another hand than Encode's.
func TestP32DecodeHeader(t *testing.T) {
	var s stream = 3
	data := s.bytes(256)
	for _, kind := range []int{api.PgData, api.PgLog, api.PgAnchor} {
		good := rawOf(api.Header{Kind: kind, Page: 5, Seq: 9, Stamp: 9})
		if e := page.State(pageOf(byHand(good, data))); e != api.OK {
			t.Fatal("what is to be made wrong is wrong already", e)
		}
		wrong := func(name string, change func(r *raw)) {
			t.Helper()
			r := good
			change(&r)
			refused(t, name, pageOf(byHand(r, data)), api.ErrHeader)
			refused(t, name+", of no data", pageOf(byHand(r, nil)), api.ErrHeader)
		}
		for _, k := range []uint8{0, api.PgAnchor + 1, 128 + api.PgData, 255} {
			wrong("Kind", func(r *raw) { r.kind = k })
		}
		for i := range 8 {
			wrong("the second byte", func(r *raw) { r.second = 1 << i })
		}
		for _, n := range []uint32{api.MaxLogical, api.MaxLogical + 5, 1 << 31, 1<<31 + 5, math.MaxUint32} {
			wrong("Page", func(r *raw) { r.page = n })
		}
		for _, n := range []uint64{0, api.MaxSeq + 1, 1 << 63, 1<<63 + 9, math.MaxUint64} {
			wrong("Seq and Stamp", func(r *raw) { r.seq, r.stamp = n, n })
			wrong("Seq", func(r *raw) { r.seq = n })
			wrong("Stamp", func(r *raw) { r.stamp = n })
		}
		wrong("Stamp below Seq", func(r *raw) { r.stamp = r.seq - 1 })
		for i := range 48 {
			wrong("the filling", func(r *raw) { r.filling[i/8] = 1 << (i % 8) })
		}
		if kind != api.PgData {
			wrong("Stamp above Seq", func(r *raw) { r.stamp = r.seq + 1 })
			wrong("Stamp above Seq", func(r *raw) { r.stamp = api.MaxSeq })
		}
		wrong("all", func(r *raw) {
			*r = raw{255, 255, math.MaxUint32, math.MaxUint64, math.MaxUint64, [6]byte{255, 255, 255, 255, 255, 255}}
		})
		wrong("nothing", func(r *raw) { *r = raw{} })
	}
}

func TestP32DecodeTorn(t *testing.T) {
	var s stream = 4
	h := api.Header{Kind: api.PgData, Page: 5, Seq: 9, Stamp: 11}
	whole := byHand(rawOf(h), s.bytes(256))
	for name, i := range map[string]int{
		"the first byte": 0, "the last of Data": 255, "Kind": 256, "the second byte": 257, "Page": 258,
		"Seq": 262, "Stamp": 270, "the filling": 283, "the seal": sealAt, "the last byte": pageBytes - 1,
	} {
		for bit := range 8 {
			b := bytes.Clone(whole)
			b[i] ^= 1 << bit
			refused(t, name, pageOf(b), api.ErrTorn)
		}
	}
	refused(t, "zeros", api.Page{}, api.ErrTorn)
	// The seal's error goes ahead of that of a header that may not be.
	b := byHand(raw{kind: 99}, nil)
	b[0] |= 1
	refused(t, "a header that may not be, torn", pageOf(b), api.ErrTorn)
	b = bytes.Repeat([]byte{0xff}, pageBytes)
	b[17] &^= 4
	refused(t, "all but erased", pageOf(b), api.ErrTorn)
}

func TestP32Erased(t *testing.T) {
	p := page.Erased()
	if p != pageOf(bytes.Repeat([]byte{0xff}, pageBytes)) {
		t.Errorf("Erased() = %x", bytesOf(p))
	}
	refused(t, "erased", p, api.ErrErased)
}

func TestP32Tear(t *testing.T) {
	var s stream = 5
	pages := []api.Page{{}, page.Erased(), pageOf(s.bytes(pageBytes)), mustEncode(t, goodHeaders()[0], []byte("data"))}
	for _, p := range pages {
		for _, n := range []int{0, 1, 2, 7, 100, 255, 256, 257, 287, 288, 289, 1000} {
			mask := s.bytes(n)
			want := bytesOf(p)
			for i := range want {
				if n > 0 {
					want[i] |= mask[i%n]
				}
			}
			if got := page.Tear(p, mask); got != pageOf(want) {
				t.Errorf("a mask of %d bytes: %x of %x", n, bytesOf(got), bytesOf(p))
			}
		}
		if page.Tear(p, nil) != p || page.Tear(p, []byte{}) != p || page.Tear(p, []byte{0}) != p {
			t.Error("a mask of nothing changes a page")
		}
		if page.Tear(p, []byte{0xff}) != page.Erased() {
			t.Error("a mask of 1 bits does not erase a page")
		}
	}
}

func TestP33Newer(t *testing.T) {
	for _, c := range []struct {
		a, b api.Header
		want bool
	}{
		{api.Header{Kind: 1, Seq: 5, Stamp: 5}, api.Header{Kind: 1, Seq: 5, Stamp: 5}, false},
		{api.Header{Kind: 1, Seq: 6, Stamp: 6}, api.Header{Kind: 1, Seq: 5, Stamp: 5}, true},
		{api.Header{Kind: 1, Seq: 5, Stamp: 5}, api.Header{Kind: 1, Seq: 6, Stamp: 6}, false},
		{api.Header{Kind: 1, Seq: 6, Stamp: 9}, api.Header{Kind: 1, Seq: 5, Stamp: 5}, true},
		{api.Header{Kind: 1, Seq: 6, Stamp: 6}, api.Header{Kind: 1, Seq: 5, Stamp: 9}, true},
		{api.Header{Kind: 1, Seq: 5, Stamp: 9}, api.Header{Kind: 1, Seq: 6, Stamp: 6}, false},
		{api.Header{Kind: 1, Seq: 5, Stamp: 7}, api.Header{Kind: 1, Seq: 5, Stamp: 8}, true},
		{api.Header{Kind: 1, Seq: 5, Stamp: 8}, api.Header{Kind: 1, Seq: 5, Stamp: 7}, false},
		// Neither Kind nor Page count.
		{api.Header{Kind: 3, Page: 9, Seq: 5, Stamp: 5}, api.Header{Kind: 1, Page: 2, Seq: 5, Stamp: 5}, false},
		{api.Header{Kind: 1, Page: 2, Seq: 5, Stamp: 5}, api.Header{Kind: 3, Page: 9, Seq: 5, Stamp: 5}, false},
		{api.Header{Kind: 1, Page: 2, Seq: 6, Stamp: 6}, api.Header{Kind: 3, Page: 9, Seq: 5, Stamp: 5}, true},
		// Headers that may not be are held against each other likewise.
		{api.Header{}, api.Header{}, false},
		{api.Header{Kind: 99, Page: -1, Seq: 1}, api.Header{}, true},
		{api.Header{Seq: -1}, api.Header{Seq: -2}, true},
		{api.Header{Seq: -2}, api.Header{Seq: -1}, false},
		{api.Header{Stamp: -1}, api.Header{}, true},
		{api.Header{}, api.Header{Stamp: -1}, false},
		{api.Header{Seq: math.MaxInt64}, api.Header{Seq: math.MinInt64}, true},
		{api.Header{Seq: math.MinInt64}, api.Header{Seq: math.MaxInt64}, false},
		{api.Header{Stamp: math.MinInt64}, api.Header{Stamp: math.MaxInt64}, true},
		{api.Header{Stamp: math.MaxInt64}, api.Header{Stamp: math.MinInt64}, false},
	} {
		if got := page.Newer(c.a, c.b); got != c.want {
			t.Errorf("Newer(%v, %v) = %v", c.a, c.b, got)
		}
	}
}

// tells fails if the iterator does not go through these places.
func tells(t *testing.T, name string, places iter.Seq[int], want ...int) {
	t.Helper()
	if got := slices.Collect(places); !slices.Equal(got, want) {
		t.Errorf("%s: %v, want %v", name, got, want)
	}
}

func TestP33Order(t *testing.T) {
	head := func(seq, stamp int64) api.Header { return api.Header{Kind: api.PgData, Seq: seq, Stamp: stamp} }
	tells(t, "none", page.Order())
	tells(t, "one", page.Order(head(5, 5)), 0)
	tells(t, "one that may not be", page.Order(api.Header{Kind: -1, Seq: -1}), 0)
	tells(t, "equal ones", page.Order(head(5, 5), head(5, 5), head(5, 5), head(5, 5)), 0, 1, 2, 3)
	tells(t, "in order", page.Order(head(9, 9), head(8, 8), head(7, 7)), 0, 1, 2)
	tells(t, "the wrong way round", page.Order(head(7, 7), head(8, 8), head(9, 9)), 2, 1, 0)
	tells(t, "copies", page.Order(head(5, 9), head(5, 7), head(5, 8), head(5, 5)), 3, 1, 2, 0)
	tells(t, "copies and writes", page.Order(head(3, 8), head(5, 5), head(3, 3), head(3, 8), head(5, 99)), 1, 4, 2, 0, 3)
	tells(t, "of all kinds", page.Order(
		api.Header{Kind: 3, Page: 4, Seq: 2, Stamp: 2}, api.Header{Kind: 1, Page: 9, Seq: 2, Stamp: 2},
		api.Header{Kind: 2, Page: 0, Seq: 3, Stamp: 3}, api.Header{Kind: 0, Page: -4, Seq: 2, Stamp: 2}), 2, 0, 1, 3)
	tells(t, "numbers that may not be", page.Order(head(0, 0), head(math.MinInt64, 0), head(math.MaxInt64, 0),
		head(0, math.MinInt64), head(0, math.MaxInt64)), 2, 3, 0, 4, 1)
	var many []api.Header
	var newer, older []int
	for i := range 50 {
		many = append(many, head(1, 2), head(2, 2))
		older = append(older, 2*i)
		newer = append(newer, 2*i+1)
	}
	tells(t, "two by turns", page.Order(many...), append(newer, older...)...)
}

func TestP33OrderStops(t *testing.T) {
	places := page.Order(api.Header{Seq: 1}, api.Header{Seq: 3}, api.Header{Seq: 2})
	for stop := range 4 {
		var got []int
		for place := range places {
			if len(got) == stop {
				break
			}
			got = append(got, place)
		}
		if !slices.Equal(got, []int{1, 2, 0}[:stop]) {
			t.Errorf("stopped behind %d: %v", stop, got)
		}
	}
	calls := 0
	places(func(int) bool { calls++; return false })
	if calls != 1 {
		t.Errorf("went on %d times", calls)
	}
	tells(t, "once more", places, 1, 2, 0)
	tells(t, "and again", places, 1, 2, 0)
}

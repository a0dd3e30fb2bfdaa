package page_test

import (
	"bytes"
	"math"
	"slices"
	"testing"

	"slipway/api"
	"slipway/page"
)

func TestP34ThereAndBack(t *testing.T) {
	var s stream = 6
	back := func(h api.Header, data []byte) {
		t.Helper()
		p := mustEncode(t, h, data)
		got, all, e := page.Decode(p)
		full := append(bytes.Clone(data), make([]byte, api.PageLen-len(data))...)
		if e != api.OK || got != h || !bytes.Equal(all, full) {
			t.Fatalf("%v, %d bytes: came back as %v, %x, %v", h, len(data), got, all, e)
		}
		if again := mustEncode(t, got, all); again != p {
			t.Fatalf("%v, %d bytes: encoded again unlike", h, len(data))
		}
	}
	for _, h := range goodHeaders() {
		for _, n := range []int{0, 1, 255, 256} {
			back(h, s.bytes(n))
		}
	}
	for n := range 257 {
		back(s.header(), s.bytes(n))
	}
}

// Whatever Decode takes, also if no Encode made it, comes back by Encode; the rest is told to be wrong.
func TestP34DecodeThereAndBack(t *testing.T) {
	var s stream = 7
	taken := 0
	for range 20000 {
		h := s.header()
		r := rawOf(h)
		switch s.below(8) {
		case 0:
			r.kind = uint8(s.below(6))
		case 1:
			r.second = uint8(s.below(2))
		case 2:
			r.page = uint32(s.next()) >> s.below(20)
		case 3:
			r.seq = s.next() << s.below(40)
		case 4:
			r.stamp += uint64(s.below(3)) - 1
		case 5:
			r.filling[s.below(6)] = uint8(s.below(2))
		}
		p := pageOf(byHand(r, s.bytes(s.below(257))))
		got, all, e := page.Decode(p)
		if e == api.ErrHeader {
			continue
		}
		if e != api.OK {
			t.Fatalf("%v: %v", r, e)
		}
		taken++
		if again := mustEncode(t, got, all); again != p {
			t.Fatalf("%v: came back unlike", r)
		}
	}
	if taken < 1000 || taken > 19000 {
		t.Errorf("%d were taken", taken)
	}
}

// told fails if p, which Encode made, is told to be whole under the mask though it changed, or torn though it did not.
func told(t *testing.T, p api.Page, mask []byte) {
	t.Helper()
	now := page.Tear(p, mask)
	want := api.ErrTorn
	switch now {
	case p:
		want = api.OK
	case page.Erased():
		want = api.ErrErased
	}
	if e := page.State(now); e != want {
		t.Fatalf("a mask of %d bytes: %v, want %v", len(mask), e, want)
	}
	if want != api.OK {
		refused(t, "torn", now, want)
	}
}

func TestP35EachBit(t *testing.T) {
	var s stream = 8
	for _, h := range goodHeaders() {
		p := mustEncode(t, h, s.bytes(s.below(257)))
		for i := range 8 * pageBytes {
			mask := make([]byte, pageBytes)
			mask[i/8] = 1 << (i % 8)
			told(t, p, mask)
		}
	}
}

// window is a mask that is 0 but for what s gives for the bytes from from on up to to.
func window(s *stream, from, to int) []byte {
	mask := make([]byte, pageBytes)
	copy(mask[from:to], s.bytes(to-from))
	return mask
}

func TestP35Torn(t *testing.T) {
	var s stream = 9
	for range 60 {
		p := mustEncode(t, s.header(), s.bytes(s.below(257)))
		for _, mask := range [][]byte{nil, {}, {0}, {1}, {0x80}, {0xff}, make([]byte, pageBytes), bytes.Repeat([]byte{0xff}, 2*pageBytes)} {
			told(t, p, mask)
		}
		for range 10 {
			told(t, p, window(&s, 0, api.PageLen))
			told(t, p, window(&s, api.PageLen, sealAt))
			told(t, p, window(&s, sealAt, pageBytes))
			told(t, p, window(&s, api.PageLen, pageBytes))
			told(t, p, s.bytes(1+s.below(700)))
			// Few bits, so that a page stays near to what it was.
			mask := make([]byte, pageBytes)
			for range 1 + s.below(4) {
				mask[s.below(pageBytes)] |= 1 << s.below(8)
			}
			told(t, p, mask)
		}
		// The rest is erased from some byte on, or up to it.
		at := s.below(pageBytes + 1)
		told(t, p, append(make([]byte, at), bytes.Repeat([]byte{0xff}, pageBytes-at)...))
		told(t, p, append(bytes.Repeat([]byte{0xff}, at), make([]byte, pageBytes-at)...))
	}
}

// A page torn again and again is never taken for another one.
func TestP35TornAgain(t *testing.T) {
	var s stream = 10
	for range 100 {
		was := mustEncode(t, s.header(), s.bytes(256))
		now := was
		for range 20 {
			now = page.Tear(now, window(&s, s.below(sealAt), pageBytes))
			if e := page.State(now); now != was && e != api.ErrTorn && e != api.ErrErased {
				t.Fatal(e)
			}
		}
	}
}

// mixed are headers of few numbers, so that many are equal, the least and the greatest among them.
func mixed() []api.Header {
	var l []api.Header
	for _, seq := range []int64{math.MinInt64, -1, 0, 1, 2, api.MaxSeq, math.MaxInt64} {
		for _, stamp := range []int64{math.MinInt64, -1, 0, 1, 2, api.MaxSeq, math.MaxInt64} {
			l = append(l, api.Header{Kind: len(l) % 5, Page: len(l) % 3, Seq: seq, Stamp: stamp})
		}
	}
	return l
}

func TestP36NewerIsAnOrder(t *testing.T) {
	l := mixed()
	for _, a := range l {
		if page.Newer(a, a) {
			t.Errorf("%v is newer than itself", a)
		}
		for _, b := range l {
			if page.Newer(a, b) && page.Newer(b, a) {
				t.Errorf("%v and %v are both newer", a, b)
			}
			unlike := a.Seq != b.Seq || a.Stamp != b.Stamp
			if unlike && !page.Newer(a, b) && !page.Newer(b, a) {
				t.Errorf("of %v and %v none is newer", a, b)
			}
			for _, c := range l {
				if page.Newer(a, b) && page.Newer(b, c) && !page.Newer(a, c) {
					t.Errorf("%v, %v, %v go round", a, b, c)
				}
			}
		}
	}
}

// ordered fails if Order does not tell each place of l once, the newest first, of equal ones the lesser place.
func ordered(t *testing.T, name string, l []api.Header) {
	t.Helper()
	places := slices.Collect(page.Order(l...))
	seen := make([]bool, len(l))
	for _, x := range places {
		if x < 0 || x >= len(l) || seen[x] {
			t.Fatalf("%s: the place %d of %d", name, x, len(l))
		}
		seen[x] = true
	}
	if len(places) != len(l) {
		t.Fatalf("%s: %d places of %d", name, len(places), len(l))
	}
	for i := 1; i < len(places); i++ {
		x, y := places[i-1], places[i]
		if page.Newer(l[y], l[x]) || !page.Newer(l[x], l[y]) && y < x {
			t.Fatalf("%s: %d %v behind %d %v", name, y, l[y], x, l[x])
		}
	}
}

func TestP36Order(t *testing.T) {
	var s stream = 11
	all := mixed()
	ordered(t, "mixed", all)
	slices.Reverse(all)
	ordered(t, "reversed", all)
	for n := range 200 {
		l := make([]api.Header, n)
		for i := range l {
			l[i] = all[s.below(len(all))]
		}
		ordered(t, "mixed, some twice", l)
		for i := range l {
			l[i] = s.header()
		}
		ordered(t, "that may be", l)
	}
}

// So many that Order has to be near-linear to end in time.
func TestTheBoundOrder(t *testing.T) {
	var s stream = 12
	const n = 1 << 18
	rising, falling, equal, mixed := make([]api.Header, n), make([]api.Header, n), make([]api.Header, n), make([]api.Header, n)
	for i := range n {
		rising[i] = api.Header{Seq: int64(i), Stamp: int64(i)}
		falling[i] = api.Header{Seq: int64(n - i), Stamp: n}
		mixed[i] = s.header()
	}
	for name, l := range map[string][]api.Header{"rising": rising, "falling": falling, "equal": equal, "mixed": mixed} {
		ordered(t, name, l)
	}
}

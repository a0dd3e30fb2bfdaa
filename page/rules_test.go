package page_test

import (
	"bytes"
	"math"
	"slices"
	"testing"

	"slipway/api"
	"slipway/page"
)

// guarded is b with room behind it that is none of the callee's: what is written there, or to b, is told by intact.
type guarded struct{ whole, was []byte }

func guard(b []byte) (guarded, []byte) {
	whole := append(bytes.Clone(b), bytes.Repeat([]byte{0x5a}, 600)...)
	return guarded{whole, bytes.Clone(whole)}, whole[:len(b)]
}

func (g guarded) intact(t *testing.T, name string) {
	t.Helper()
	if !bytes.Equal(g.whole, g.was) {
		t.Errorf("%s was written to", name)
	}
}

// scribble writes on all that an answer reaches, also behind its end.
func scribble(b []byte) {
	b = b[:cap(b)]
	for i := range b {
		b[i] ^= 0xff
	}
}

// No call panics, whatever it is given.
func TestR1(t *testing.T) {
	numbers := []int64{math.MinInt64, -1, 0, 1, 2, api.MaxLogical, api.MaxSeq, api.MaxSeq + 1, math.MaxInt64}
	var l []api.Header
	for _, kind := range numbers {
		for _, n := range numbers {
			for _, seq := range numbers {
				for _, stamp := range numbers {
					l = append(l, api.Header{Kind: int(kind), Page: int(n), Seq: seq, Stamp: stamp})
				}
			}
		}
	}
	for _, h := range l {
		p, e := page.Encode(h, nil)
		if c := page.Check(h); c != e {
			t.Fatalf("%v: Check: %v, Encode: %v", h, c, e)
		}
		if e != api.OK && p != (api.Page{}) {
			t.Fatalf("%v: a page beside %v", h, e)
		}
	}
	ordered(t, "all that may and may not be", l)
	var s stream = 13
	for range 2000 {
		p := pageOf(s.bytes(pageBytes))
		refused(t, "any bytes", p, api.ErrTorn)
		refused(t, "any bytes, sealed", pageOf(sealed(s.bytes(sealAt))), api.ErrHeader)
		page.Tear(p, s.bytes(s.below(1000)))
	}
}

func TestR3HandedIn(t *testing.T) {
	var s stream = 14
	h := api.Header{Kind: api.PgData, Page: 5, Seq: 9, Stamp: 11}
	for _, n := range []int{0, 1, 255, 256, 257} {
		g, data := guard(s.bytes(n))
		p, e := page.Encode(h, data)
		g.intact(t, "data")
		was := p
		scribble(data)
		if p != was {
			t.Error("a page hangs on the data that it was made of")
		}
		if want := n > 256; (e == api.ErrLong) != want {
			t.Error(n, e)
		}
	}
	for _, n := range []int{0, 1, 100, 288, 500} {
		g, mask := guard(s.bytes(n))
		p := mustEncode(t, h, s.bytes(30))
		was := p
		torn := page.Tear(p, mask)
		g.intact(t, "a mask")
		kept := torn
		scribble(mask)
		if p != was || torn != kept {
			t.Error("a page hangs on the mask that tore it, or tears with another one")
		}
	}
}

func TestR3Decode(t *testing.T) {
	var s stream = 15
	for _, h := range goodHeaders() {
		p := pageOf(byHand(rawOf(h), s.bytes(256)))
		was := p
		_, first, _ := page.Decode(p)
		_, other, _ := page.Decode(p)
		scribble(first)
		if p != was {
			t.Error("the data that Decode answers are the page's own")
		}
		if !bytes.Equal(other, was.Data[:]) {
			t.Error("the data of two answers are the same memory")
		}
		scribble(p.Data[:])
		scribble(p.Oob[:])
		if !bytes.Equal(other, was.Data[:]) {
			t.Error("the data that Decode answered hang on the page")
		}
	}
}

func TestR3Erased(t *testing.T) {
	p := page.Erased()
	scribble(p.Data[:])
	scribble(p.Oob[:])
	if page.Erased() != pageOf(bytes.Repeat([]byte{0xff}, pageBytes)) {
		t.Error("an erased page is not one any more")
	}
}

// An iterator tells what was there when it was asked for.
func TestR3Order(t *testing.T) {
	whole := []api.Header{{Seq: 1}, {Seq: 3}, {Seq: 2}, {Seq: 3}, {Seq: 99}}
	was := slices.Clone(whole)
	l := whole[:4]
	places := page.Order(l...)
	tells(t, "ahead of a change", places, 1, 3, 2, 0)
	if !slices.Equal(whole, was) {
		t.Errorf("the list became %v", whole)
	}
	for i := range l {
		l[i] = api.Header{Seq: int64(i)}
	}
	changed := slices.Clone(whole)
	tells(t, "behind a change", places, 1, 3, 2, 0)
	tells(t, "asked for anew", page.Order(l...), 3, 2, 1, 0)
	if !slices.Equal(whole, changed) {
		t.Errorf("the list became %v", whole)
	}
	// Nor is a change told in the midst, or one that comes ahead of the first range.
	fresh := page.Order(l...)
	var got []int
	for i := range l {
		l[i] = api.Header{Seq: int64(-i)}
	}
	for place := range fresh {
		l[place] = api.Header{Seq: int64(100 * place)}
		got = append(got, place)
		tells(t, "within another range", fresh, 3, 2, 1, 0)
	}
	if !slices.Equal(got, []int{3, 2, 1, 0}) {
		t.Errorf("in the midst of changes: %v", got)
	}
}

func TestR4EmptyIsNil(t *testing.T) {
	for _, h := range goodHeaders() {
		if mustEncode(t, h, nil) != mustEncode(t, h, []byte{}) {
			t.Errorf("%v: no data are not empty ones", h)
		}
	}
	p := mustEncode(t, goodHeaders()[0], nil)
	if page.Tear(p, nil) != page.Tear(p, []byte{}) {
		t.Error("no mask is not an empty one")
	}
	tells(t, "nil", page.Order([]api.Header(nil)...))
	tells(t, "empty", page.Order([]api.Header{}...))
}

func TestR6(t *testing.T) {
	run := func() []byte {
		var s stream = 16
		var said []byte
		l := make([]api.Header, 100)
		for i := range l {
			l[i] = s.header()
			p, _ := page.Encode(l[i], s.bytes(s.below(260)))
			said = append(said, bytesOf(page.Tear(p, s.bytes(s.below(3))))...)
		}
		for place := range page.Order(l...) {
			said = append(said, byte(place))
		}
		return said
	}
	if !bytes.Equal(run(), run()) {
		t.Error("the same calls did not answer the same")
	}
}

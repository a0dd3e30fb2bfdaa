package seal_test

import (
	"bytes"
	"slices"
	"testing"

	"slipway/api"
	"slipway/seal"
)

// guarded is b with room behind it that is none of the callee's: what is written there, or to b, is told by intact.
type guarded struct{ whole, was []byte }

func guard(b []byte) (guarded, []byte) {
	whole := append(bytes.Clone(b), bytes.Repeat([]byte{0x5a}, 16)...)
	return guarded{whole, bytes.Clone(whole)}, whole[:len(b)]
}

func (g guarded) intact(t *testing.T, name string) {
	t.Helper()
	if !bytes.Equal(g.whole, g.was) {
		t.Errorf("%s: %x became %x", name, g.was, g.whole)
	}
}

// scribble writes on all that an answer reaches, also behind its end.
func scribble(b []byte) {
	b = b[:cap(b)]
	for i := range b {
		b[i] ^= 0xff
	}
}

func TestR3Bytes(t *testing.T) {
	for _, c := range states() {
		if len(c.b) > 1000 {
			continue
		}
		g, b := guard(c.b)
		seal.Zeros(b)
		seal.State(b)
		g.intact(t, "Zeros, State")
		sealed, _ := seal.Seal(b)
		scribble(sealed)
		g.intact(t, "Seal")
		opened, _ := seal.Open(b)
		scribble(opened)
		g.intact(t, "Open")
	}
}

func TestR3Masks(t *testing.T) {
	var s stream = 8
	for _, n := range []int{0, 1, 2, 7, 40} {
		for _, k := range []int{0, 1, 2, 7, 40} {
			g, b := guard(s.bytes(n))
			h, mask := guard(s.bytes(k))
			seal.Covers(b, mask)
			scribble(seal.Mask(b, mask))
			g.intact(t, "Mask, Covers: b")
			h.intact(t, "Mask, Covers: mask")
		}
	}
}

func TestR3Fields(t *testing.T) {
	widths := []int{2, 6, 12, 64, 1}
	values := []uint64{3, 1, 0xabc, 1 << 63, 1}
	wasWidths, wasValues := slices.Clone(widths), slices.Clone(values)
	packed, e := seal.Pack(widths, values...)
	if e != api.OK {
		t.Fatal(e)
	}
	g, b := guard(packed)
	scribble(packed)
	got, e := seal.Unpack(widths, b)
	if e != api.OK || !slices.Equal(got, values) {
		t.Fatal(got, e)
	}
	for i := range got {
		got[i] = 99
	}
	seal.Width(widths)
	g.intact(t, "Unpack")
	if !slices.Equal(widths, wasWidths) || !slices.Equal(values, wasValues) {
		t.Errorf("widths %v, values %v", widths, values)
	}
}

// No two answers of the same call share memory, and the same call answers the same.
func TestR3R6Answers(t *testing.T) {
	b := mustSeal(t, []byte{0xf0, 1, 2})
	for name, call := range map[string]func() []byte{
		"Seal":    func() []byte { got, _ := seal.Seal(b); return got },
		"Open":    func() []byte { got, _ := seal.Open(b); return got },
		"Mask":    func() []byte { return seal.Mask(b, []byte{8}) },
		"no mask": func() []byte { return seal.Mask(b, nil) },
		"Pack":    func() []byte { got, _ := seal.Pack([]int{9, 9}, 300, 17); return got },
	} {
		first := call()
		want := bytes.Clone(first)
		scribble(first)
		if got := call(); len(got) == 0 || !bytes.Equal(got, want) {
			t.Errorf("%s: %x, ahead %x", name, got, want)
		}
	}
}

func TestR4EmptyIsNil(t *testing.T) {
	none := []byte{}
	if seal.Zeros(none) != seal.Zeros(nil) || seal.State(none) != seal.State(nil) {
		t.Error("Zeros, State")
	}
	if a, b := mustSeal(t, none), mustSeal(t, nil); !bytes.Equal(a, b) {
		t.Errorf("Seal: %x, %x", a, b)
	}
	if !seal.Covers(none, nil) || !seal.Covers(nil, none) {
		t.Error("Covers")
	}
	if len(seal.Mask(none, none)) != 0 || len(seal.Mask(nil, nil)) != 0 {
		t.Error("Mask")
	}
	if p, e := seal.Open(mustSeal(t, none)); e != api.OK || len(p) != 0 {
		t.Errorf("Open: %x, %v", p, e)
	}
}

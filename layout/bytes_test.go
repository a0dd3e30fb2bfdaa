package layout_test

import (
	"bytes"
	"math"
	"math/bits"
	"slices"
	"strconv"
	"testing"

	"slipway/api"
	"slipway/layout"
)

// sealed is bytes, filled up with 0s to 252, and behind them how many of their bits are 0: counted without the program's help.
func sealed(ahead ...byte) []byte {
	b := append(slices.Clone(ahead), make([]byte, 252-len(ahead))...)
	zeros := 8 * 252
	for _, x := range b {
		zeros -= bits.OnesCount8(x)
	}
	return append(b, byte(zeros>>24), byte(zeros>>16), byte(zeros>>8), byte(zeros))
}

// number is n in so many bytes, the highest one first.
func number(n uint64, many int) []byte {
	b := make([]byte, many)
	for i := range b {
		b[many-1-i] = byte(n >> (8 * i))
	}
	return b
}

// fields are what stands in a superblock.
type fields struct{ magic, blocks, journal, clean, orphan, mounts uint64 }

func goodFields() fields {
	return fields{magic: 0x534c4950, blocks: 300, journal: 16, clean: 1, orphan: 7, mounts: 3}
}

func (f fields) bytes() []byte {
	return sealed(slices.Concat(number(f.magic, 4), number(f.blocks, 4), number(f.journal, 2), number(f.clean, 1), number(f.orphan, 4), number(f.mounts, 8))...)
}

// mayBe: P11.3's words of what a superblock says.
func (f fields) mayBe() bool {
	return f.magic == 0x534c4950 && f.blocks <= 8192 && mayBe(int(f.blocks), int(f.journal)) && f.clean <= 1 &&
		f.orphan <= 16*((f.blocks+127)/128) && f.mounts <= 1<<60
}

func (f fields) super() api.Super {
	return api.Super{Shape: shape(int(f.blocks), int(f.journal)), Orphan: int(f.orphan), Clean: f.clean == 1, Mounts: int64(f.mounts)}
}

func super(s api.Shape, orphan int, clean bool, mounts int64) api.Super {
	return api.Super{Shape: s, Orphan: orphan, Clean: clean, Mounts: mounts}
}

// wantSuper fails if a superblock is not encoded as these bytes, or they are not decoded as it.
func wantSuper(t *testing.T, s api.Super, want []byte) {
	t.Helper()
	b, e := layout.EncodeSuper(s)
	if e != api.OK || !bytes.Equal(b, want) {
		t.Errorf("EncodeSuper of %v: % x, %v, want % x", s, b, e, want)
	}
	x, e := layout.DecodeSuper(want)
	if e != api.OK || x != s {
		t.Errorf("DecodeSuper: %v, %v, want %v", x, e, s)
	}
}

func noSuper(t *testing.T, name string, b []byte) {
	t.Helper()
	s, e := layout.DecodeSuper(b)
	if s != (api.Super{}) || e != api.ErrSuper {
		t.Errorf("DecodeSuper, %s: %v, %v", name, s, e)
	}
}

func noBytes(t *testing.T, name string, b []byte, e, want api.Errno) {
	t.Helper()
	if b != nil || e != want {
		t.Errorf("%s: % x, %v, want %v", name, b, e, want)
	}
}

func TestP113Bytes(t *testing.T) {
	wantSuper(t, super(shape(300, 16), 7, true, 3), sealed(
		0x53, 0x4c, 0x49, 0x50,
		0, 0, 1, 0x2c,
		0, 16,
		1,
		0, 0, 0, 7,
		0, 0, 0, 0, 0, 0, 0, 3,
	))
	wantSuper(t, super(shape(8192, 64), 1024, false, 0x0102030405060708), sealed(
		0x53, 0x4c, 0x49, 0x50,
		0, 0, 0x20, 0,
		0, 64,
		0,
		0, 0, 4, 0,
		1, 2, 3, 4, 5, 6, 7, 8,
	))
	b, _ := layout.EncodeSuper(super(shape(25, 16), 0, false, 0))
	// The 1 bits of the magic number, of 25 and of 16.
	want := append([]byte{0x53, 0x4c, 0x49, 0x50, 0, 0, 0, 25, 0, 16}, make([]byte, 246)...)
	copy(want[252:], number(2016-12-3-1, 4))
	if !bytes.Equal(b, want) {
		t.Errorf("% x, want % x", b, want)
	}
}

func TestP113EncodeAtEdges(t *testing.T) {
	for _, s := range rightShapes() {
		most := layout.Inodes(s)
		for _, orphan := range []int{0, 1, most - 1, most} {
			for _, mounts := range []int64{0, 1, 1<<60 - 1, 1 << 60} {
				for clean, bit := range map[bool]uint64{false: 0, true: 1} {
					f := fields{0x534c4950, uint64(s.Blocks), uint64(s.Journal), bit, uint64(orphan), uint64(mounts)}
					wantSuper(t, super(s, orphan, clean, mounts), f.bytes())
				}
			}
		}
	}
}

func TestP113EncodeOfWrong(t *testing.T) {
	for _, s := range rightShapes() {
		most := layout.Inodes(s)
		for _, orphan := range []int{-1, most + 1, most + 16, 1025, 1 << 32, 1<<32 + 1, math.MinInt, math.MaxInt} {
			b, e := layout.EncodeSuper(super(s, orphan, true, 1))
			noBytes(t, "Orphan "+strconv.Itoa(orphan), b, e, api.ErrArg)
		}
		for _, mounts := range []int64{-1, 1<<60 + 1, 1 << 61, math.MinInt64, math.MaxInt64} {
			b, e := layout.EncodeSuper(super(s, 1, true, mounts))
			noBytes(t, "Mounts "+strconv.FormatInt(mounts, 10), b, e, api.ErrArg)
			b, e = layout.EncodeSuper(super(s, -1, false, mounts))
			noBytes(t, "both", b, e, api.ErrArg)
		}
	}
	for _, s := range wrongShapes() {
		b, e := layout.EncodeSuper(super(s, 0, true, 1))
		noBytes(t, named(s), b, e, api.ErrShape)
		// Of two errors Check's is the first.
		b, e = layout.EncodeSuper(super(s, -1, true, -1))
		noBytes(t, named(s), b, e, api.ErrShape)
	}
	b, e := layout.EncodeSuper(api.Super{})
	noBytes(t, "zero", b, e, api.ErrShape)
}

func TestP113DecodeOfLengths(t *testing.T) {
	noSuper(t, "nil", nil)
	noSuper(t, "empty", []byte{})
	noSuper(t, "0s", make([]byte, 256))
	noSuper(t, "1s", bytes.Repeat([]byte{0xff}, 256))
	noSuper(t, "sealed 0s", sealed())
	b := goodFields().bytes()
	noSuper(t, "a byte less", b[:255])
	noSuper(t, "not sealed", b[:252])
	noSuper(t, "the fields alone", b[:23])
	noSuper(t, "a byte more", append(slices.Clone(b), 0))
	noSuper(t, "a byte ahead", append([]byte{0}, b...))
	noSuper(t, "twice", append(slices.Clone(b), b...))
	// A seal that is right for another length.
	noSuper(t, "sealed, but shorter", append(slices.Clone(b[:251]), number(uint64(zeros(b[:251])), 4)...))
	noSuper(t, "sealed, but longer", append(append(slices.Clone(b[:252]), 0), number(uint64(zeros(b[:252])+8), 4)...))
}

func zeros(b []byte) int {
	n := 8 * len(b)
	for _, x := range b {
		n -= bits.OnesCount8(x)
	}
	return n
}

func TestP113DecodeOfTurnedBits(t *testing.T) {
	for _, s := range []api.Super{
		super(shape(300, 16), 7, true, 3),
		super(shape(8192, 64), 0, false, 1<<60),
		super(shape(25, 16), 16, false, 0),
		super(shape(2064, 32), 272, true, 0x0fff_ffff_ffff_ffff),
	} {
		b, e := layout.EncodeSuper(s)
		is(t, "EncodeSuper", e, api.OK)
		for bit := range 8 * len(b) {
			c := slices.Clone(b)
			c[bit/8] ^= 1 << (bit % 8)
			noSuper(t, "bit "+strconv.Itoa(bit), c)
		}
	}
}

// Two bits turned of which one became 1 and the other 0 leave the seal right: what the fields say then may be, or not.
func TestP113DecodeOfTwoTurnedBits(t *testing.T) {
	good := goodFields()
	b := good.bytes()
	there := 0
	for i := range 8 * 23 {
		for j := range i {
			c := slices.Clone(b[:252])
			c[i/8] ^= 1 << (i % 8)
			c[j/8] ^= 1 << (j % 8)
			c = sealed(c...)
			f := split(c)
			if !f.mayBe() {
				noSuper(t, "two bits", c)
				continue
			}
			there++
			s, e := layout.DecodeSuper(c)
			if s != f.super() || e != api.OK {
				t.Fatalf("DecodeSuper of %v: %v, %v", f, s, e)
			}
		}
	}
	if there < 100 {
		t.Error("too few that may be:", there)
	}
}

// split is the fields of a superblock's bytes.
func split(b []byte) fields {
	take := func(many int) uint64 {
		n := uint64(0)
		for _, x := range b[:many] {
			n = n<<8 | uint64(x)
		}
		b = b[many:]
		return n
	}
	return fields{take(4), take(4), take(2), take(1), take(4), take(8)}
}

// A page that is sealed, of which one field alone may not be.
func TestP113DecodeOfWrongFields(t *testing.T) {
	if s, e := layout.DecodeSuper(goodFields().bytes()); e != api.OK || s != goodFields().super() {
		t.Fatal(s, e)
	}
	wrong := func(name string, n uint64, f fields) {
		t.Helper()
		noSuper(t, name+" "+strconv.FormatUint(n, 10), f.bytes())
	}
	for _, n := range []uint64{0, 1, 0x534c4951, 0x534c4940, 0x50494c53, 0x534c4a21, 0xffffffff} {
		f := goodFields()
		f.magic = n
		wrong("magic", n, f)
	}
	for _, n := range []uint64{0, 1, 15, 16, 24, 129, 143, 257, 271, 8193, 1 << 16, 1<<31 + 300, 1<<32 - 1} {
		f := goodFields()
		f.blocks = n
		wrong("Blocks", n, f)
	}
	for _, n := range []uint64{0, 1, 15, 65, 256 + 16, 1<<15 + 16, 1<<16 - 1} {
		f := goodFields()
		f.journal = n
		wrong("Journal", n, f)
	}
	for n := uint64(2); n < 256; n++ {
		f := goodFields()
		f.clean = n
		wrong("Clean", n, f)
	}
	for _, n := range []uint64{49, 64, 1024, 1<<31 + 1, 1<<32 - 1} {
		f := goodFields()
		f.orphan = n
		wrong("Orphan", n, f)
	}
	for _, n := range []uint64{1<<60 + 1, 1 << 61, 1<<63 - 1, 1 << 63, 1<<63 + 3, 1<<64 - 1} {
		f := goodFields()
		f.mounts = n
		wrong("Mounts", n, f)
	}
}

// A byte that is not 0 behind Mounts, in a page that is sealed.
func TestP113DecodeOfBytesBehind(t *testing.T) {
	b := goodFields().bytes()[:252]
	for at := 23; at < 252; at++ {
		for _, x := range []byte{1, 0x80, 0xff} {
			c := slices.Clone(b)
			c[at] = x
			noSuper(t, "byte "+strconv.Itoa(at), sealed(c...))
		}
	}
}

func descs(many int, d api.Desc) []api.Desc { return slices.Repeat([]api.Desc{d}, many) }

// wantDescs fails if descriptors are not encoded as these bytes, or they are not decoded as those.
func wantDescs(t *testing.T, l []api.Desc, want []byte) {
	t.Helper()
	b, e := layout.EncodeDescs(l...)
	if e != api.OK || !bytes.Equal(b, want) {
		t.Errorf("EncodeDescs of %v: % x, %v, want % x", l, b, e, want)
	}
	x, e := layout.DecodeDescs(want, len(l))
	if e != api.OK || !slices.Equal(x, l) {
		t.Errorf("DecodeDescs: %v, %v, want %v", x, e, l)
	}
}

// descBytes is a block of descriptors, made without the program's help.
func descBytes(l ...api.Desc) []byte {
	b := make([]byte, 256)
	for i, d := range l {
		copy(b[16*i:], slices.Concat(number(uint64(d.Blocks), 2), number(uint64(d.Inodes), 2), number(uint64(d.Dirs), 2)))
	}
	return b
}

func TestP114Bytes(t *testing.T) {
	wantDescs(t, nil, make([]byte, 256))
	want := make([]byte, 256)
	copy(want, []byte{0, 88, 0, 15, 0, 1})
	copy(want[16:], []byte{1, 2, 3, 4, 5, 6})
	copy(want[32:], []byte{0xff, 0xff, 0xff, 0xfe, 0xfe, 0xff})
	wantDescs(t, []api.Desc{{Blocks: 88, Inodes: 15, Dirs: 1}, {Blocks: 0x102, Inodes: 0x304, Dirs: 0x506}, {Blocks: 65535, Inodes: 65534, Dirs: 65279}}, want)
	for many := range 17 {
		var l []api.Desc
		for i := range many {
			l = append(l, api.Desc{Blocks: 1000 + i, Inodes: 2000 + i, Dirs: 3000 + i})
		}
		wantDescs(t, l, descBytes(l...))
	}
	wantDescs(t, descs(16, api.Desc{Blocks: 65535, Inodes: 65535, Dirs: 65535}), descBytes(descs(16, api.Desc{Blocks: 65535, Inodes: 65535, Dirs: 65535})...))
	wantDescs(t, descs(16, api.Desc{}), make([]byte, 256))
}

// withCount is a descriptor of which one number is this.
func withCount(d api.Desc, which, n int) api.Desc {
	*[]*int{&d.Blocks, &d.Inodes, &d.Dirs}[which] = n
	return d
}

func TestP114EncodeOfNumbers(t *testing.T) {
	for which := range 3 {
		for _, place := range []int{0, 1, 7, 15} {
			l := descs(16, api.Desc{Blocks: 1, Inodes: 2, Dirs: 3})
			for _, n := range []int{0, 1, 255, 256, 65534, 65535} {
				l[place] = withCount(l[place], which, n)
				wantDescs(t, l, descBytes(l...))
			}
			for _, n := range []int{-1, 65536, 65537, -65536, -65535, 1 << 32, 1<<32 + 1, math.MinInt, math.MaxInt} {
				l[place] = withCount(l[place], which, n)
				b, e := layout.EncodeDescs(l...)
				noBytes(t, "EncodeDescs with "+strconv.Itoa(n), b, e, api.ErrArg)
				b, e = layout.EncodeDescs(l[place])
				noBytes(t, "EncodeDescs with "+strconv.Itoa(n), b, e, api.ErrArg)
			}
		}
	}
}

func TestP114EncodeOfTooMany(t *testing.T) {
	for _, many := range []int{17, 18, 32, 1000} {
		for _, d := range []api.Desc{{}, {Blocks: 1, Inodes: 2, Dirs: 3}, {Blocks: -1}} {
			b, e := layout.EncodeDescs(descs(many, d)...)
			noBytes(t, "EncodeDescs of "+strconv.Itoa(many), b, e, api.ErrArg)
		}
	}
}

func noDescs(t *testing.T, name string, b []byte, n int, want api.Errno) {
	t.Helper()
	l, e := layout.DecodeDescs(b, n)
	if l != nil || e != want {
		t.Errorf("DecodeDescs of %d, %s: %v, %v, want %v", n, name, l, e, want)
	}
}

func TestP114DecodeOfNumbers(t *testing.T) {
	full := descBytes(descs(16, api.Desc{Blocks: 1, Inodes: 2, Dirs: 3})...)
	for _, n := range []int{-1, -16, 17, 18, 256, math.MinInt, math.MaxInt} {
		noDescs(t, "0s", make([]byte, 256), n, api.ErrArg)
		noDescs(t, "as many as go in", full, n, api.ErrArg)
		// Of two errors ErrArg is the first.
		noDescs(t, "nil", nil, n, api.ErrArg)
		noDescs(t, "a byte more", make([]byte, 257), n, api.ErrArg)
	}
	for n := range 17 {
		if l, e := layout.DecodeDescs(make([]byte, 256), n); e != api.OK || !slices.Equal(l, descs(n, api.Desc{})) {
			t.Error("DecodeDescs of 0s", n, l, e)
		}
		if n < 16 {
			noDescs(t, "more than n", full, n, api.ErrSuper)
		}
	}
	if l, e := layout.DecodeDescs(full, 16); e != api.OK || !slices.Equal(l, descs(16, api.Desc{Blocks: 1, Inodes: 2, Dirs: 3})) {
		t.Error("DecodeDescs", l, e)
	}
}

func TestP114DecodeOfLengths(t *testing.T) {
	for n := range 17 {
		noDescs(t, "nil", nil, n, api.ErrSuper)
		noDescs(t, "empty", []byte{}, n, api.ErrSuper)
		for _, many := range []int{1, 6 * n, 16 * n, 252, 255, 257, 512} {
			if many != 256 {
				noDescs(t, strconv.Itoa(many)+" bytes", make([]byte, many), n, api.ErrSuper)
			}
		}
	}
}

// Each byte that is not one of a number must be 0, behind the three of them and behind the last descriptor.
func TestP114DecodeOfBytesBehind(t *testing.T) {
	for n := range 17 {
		l := descs(n, api.Desc{Blocks: 300, Inodes: 500, Dirs: 700})
		for at := range 256 {
			for _, x := range []byte{1, 0x80, 0xff} {
				b := descBytes(l...)
				b[at] = x
				if at/16 >= n || at%16 >= 6 {
					noDescs(t, "byte "+strconv.Itoa(at), b, n, api.ErrSuper)
					continue
				}
				if got, e := layout.DecodeDescs(b, n); e != api.OK || !bytes.Equal(descBytes(got...), b) {
					t.Error("byte", at, got, e)
				}
			}
		}
	}
}

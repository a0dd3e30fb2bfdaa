package mapjnl_test

import (
	"bytes"
	"math"
	"slices"
	"strconv"
	"testing"

	"slipway/api"
	"slipway/mapjnl"
)

// laid is PageLen bytes: these, and 0s behind them.
func laid(parts ...[]byte) []byte {
	b := slices.Concat(parts...)
	return append(b, make([]byte, api.PageLen-len(b))...)
}

func wantBytes(t *testing.T, name string, p api.MapPage, want []byte) {
	t.Helper()
	b, e := mapjnl.Bytes(p)
	if e != api.OK || !bytes.Equal(b, want) {
		t.Errorf("%s: Bytes: % x, %v, want % x", name, b, e, want)
	}
	q, e := mapjnl.Parse(want)
	madePage(t, name+": Parse", q, e, p)
}

// noPage fails if bytes are taken for a page.
func noPage(t *testing.T, name string, b []byte) {
	t.Helper()
	p, e := mapjnl.Parse(b)
	refusedPage(t, name, p, e, api.ErrPage)
}

func TestP64BytesOfParts(t *testing.T) {
	s := of(3, bad(0, 2), wear(0, 0x010203), wear(1, api.MaxWear), wear(2, 7), seq(0x0102030405060708))
	wantBytes(t, "three blocks", partPage(0x0807060504030201, 2, s), laid(
		[]byte{1, 2, 3, 0, 0, 0, 0, 0, 8, 7, 6, 5, 4, 3, 2, 1},
		[]byte{1, 2, 3, 4, 5, 6, 7, 8},
		[]byte{5, 0, 0, 0, 0, 0, 0, 0},
		[]byte{1, 2, 3, 0xff, 0xff, 0xff, 0, 0, 7},
	))
	wantBytes(t, "one block", partPage(0, 0, of(1)), laid([]byte{1, 0, 1}))
	full := of(64, bad(0, 7, 8, 17, 63), wear(63, 0x0a0b0c), seq(api.MaxSeq))
	want := laid(
		[]byte{1, 3, 64, 0, 0, 0, 0, 0, 0x10, 0, 0, 0, 0, 0, 0, 0},
		[]byte{0x10, 0, 0, 0, 0, 0, 0, 0},
		[]byte{0x81, 0x01, 0x02, 0, 0, 0, 0, 0x80},
	)
	copy(want[32+3*63:], []byte{0x0a, 0x0b, 0x0c})
	wantBytes(t, "as many as go in", partPage(api.MaxGen, 3, full), want)
	for j := range 64 {
		want := laid([]byte{1, 0, 64})
		want[24+j/8] = 1 << (j % 8)
		want[32+3*j+2] = byte(j + 1)
		wantBytes(t, "block "+strconv.Itoa(j), partPage(0, 0, of(64, bad(j), wear(j, int64(j+1)))), want)
	}
}

func TestP64BytesOfRecords(t *testing.T) {
	wantBytes(t, "none", recordPage(0), laid([]byte{2}))
	wantBytes(t, "each kind", recordPage(9, isUsed(0x0102030405060708), isBad(255), isWorn(7, 0x0a0b0c)), laid(
		[]byte{2, 0, 3, 0, 0, 0, 0, 0, 0, 0, 0, 0, 0, 0, 0, 9},
		[]byte{3, 0, 1, 2, 3, 4, 5, 6, 7, 8},
		[]byte{1, 255, 0, 0, 0, 0, 0, 0, 0, 0},
		[]byte{2, 7, 0, 0, 0, 0, 0, 0x0a, 0x0b, 0x0c},
	))
	var full []api.MapRecord
	want := []byte{2, 0, 24, 0, 0, 0, 0, 0, 0x10, 0, 0, 0, 0, 0, 0, 0}
	for i := range 24 {
		full = append(full, isWorn(10*i, int64(i)))
		want = append(want, 2, byte(10*i), 0, 0, 0, 0, 0, 0, 0, byte(i))
	}
	if len(want) != api.PageLen {
		t.Fatal("records of a page:", len(want))
	}
	wantBytes(t, "as many as go in", recordPage(api.MaxGen, full...), want)
}

// wrongPages are pages that no bytes tell, each for one reason alone.
func wrongPages() map[string]api.MapPage {
	l := map[string]api.MapPage{"zero": {}}
	wrong := func(name string, p api.MapPage, change func(p *api.MapPage)) {
		p = copyOfPage(p)
		change(&p)
		l[name] = p
	}
	part := partPage(5, 1, of(16, bad(1), wear(2, 3), seq(4)))
	records := recordPage(5, isBad(1), isWorn(2, 3))
	for name, p := range map[string]api.MapPage{"a part: ": part, "records: ": records, "no records: ": recordPage(0)} {
		for _, kind := range []int{0, 3, -1, 257, 258, math.MaxInt, math.MinInt} {
			wrong(name+"Kind "+strconv.Itoa(kind), p, func(p *api.MapPage) { p.Kind = kind })
		}
		for _, gen := range badGens {
			wrong(name+"Gen "+strconv.FormatInt(gen, 10), p, func(p *api.MapPage) { p.Gen = gen })
		}
		for _, n := range []int{-1, 4, 256, 257, math.MaxInt, math.MinInt} {
			wrong(name+"Part "+strconv.Itoa(n), p, func(p *api.MapPage) { p.Part = n })
		}
	}
	wrong("a part as records", part, func(p *api.MapPage) { p.Kind = api.MpRecords })
	wrong("records as a part", records, func(p *api.MapPage) { p.Kind = api.MpPart })
	for _, n := range []int64{-1, api.MaxSeq + 1, math.MaxInt64, math.MinInt64} {
		wrong("a part: Seq "+strconv.FormatInt(n, 10), part, func(p *api.MapPage) { p.Seq = n })
	}
	for _, n := range []int64{-1, api.MaxWear + 1, 1 << 32, math.MaxInt64, math.MinInt64} {
		wrong("a part: a wear of "+strconv.FormatInt(n, 10), part, func(p *api.MapPage) { p.Wear[15] = n })
	}
	wrong("a part: no blocks", part, func(p *api.MapPage) { p.Bad, p.Wear = nil, nil })
	wrong("a part: 65 blocks", part, func(p *api.MapPage) { p.Bad, p.Wear = make([]bool, 65), make([]int64, 65) })
	wrong("a part: 256 + 1 blocks", part, func(p *api.MapPage) { p.Bad, p.Wear = make([]bool, 257), make([]int64, 257) })
	wrong("a part: more of Wear", part, func(p *api.MapPage) { p.Wear = make([]int64, 17) })
	wrong("a part: fewer of Wear", part, func(p *api.MapPage) { p.Wear = make([]int64, 15) })
	wrong("a part: no Wear", part, func(p *api.MapPage) { p.Wear = nil })
	wrong("a part: no Bad", part, func(p *api.MapPage) { p.Bad = nil })
	wrong("a part: a record", part, func(p *api.MapPage) { p.Records = []api.MapRecord{isBad(1)} })
	wrong("a part: a zero record", part, func(p *api.MapPage) { p.Records = make([]api.MapRecord, 1) })
	for _, n := range []int{1, 2, 3} {
		wrong("records: Part "+strconv.Itoa(n), records, func(p *api.MapPage) { p.Part = n })
	}
	for _, n := range []int64{1, -1, api.MaxSeq, math.MaxInt64} {
		wrong("records: Seq "+strconv.FormatInt(n, 10), records, func(p *api.MapPage) { p.Seq = n })
	}
	wrong("records: Bad", records, func(p *api.MapPage) { p.Bad = make([]bool, 1) })
	wrong("records: Wear", records, func(p *api.MapPage) { p.Wear = make([]int64, 1) })
	wrong("records: Bad and Wear", records, func(p *api.MapPage) { p.Bad, p.Wear = make([]bool, 16), make([]int64, 16) })
	wrong("records: one more than go in", records, func(p *api.MapPage) { p.Records = slices.Repeat([]api.MapRecord{isBad(1)}, 25) })
	wrong("records: 256", records, func(p *api.MapPage) { p.Records = slices.Repeat([]api.MapRecord{isBad(1)}, 256) })
	for i, r := range badRecords {
		wrong("records: one that may not be: "+strconv.Itoa(i), records, func(p *api.MapPage) { p.Records[1] = r })
	}
	return l
}

// rightPages are some at the edges of what may be.
func rightPages() []api.MapPage {
	l := []api.MapPage{
		recordPage(0), recordPage(api.MaxGen, goodRecords...), recordPage(1, slices.Repeat([]api.MapRecord{isWorn(255, api.MaxWear)}, 24)...),
		partPage(0, 0, of(1)), partPage(api.MaxGen, 3, of(64, bad(0, 63), wear(0, api.MaxWear), wear(63, api.MaxWear), seq(api.MaxSeq))),
	}
	for n := range 4 {
		l = append(l, partPage(int64(n), n, of(63, bad(5), wear(62, 9), seq(1))))
	}
	for _, r := range goodRecords {
		l = append(l, recordPage(7, r))
	}
	return l
}

func TestP64WrongPages(t *testing.T) {
	for name, p := range wrongPages() {
		b, e := mapjnl.Bytes(p)
		if e != api.ErrPage || b != nil {
			t.Errorf("%s: % x, %v", name, b, e)
		}
	}
	for _, p := range rightPages() {
		b, e := mapjnl.Bytes(p)
		if e != api.OK || len(b) != api.PageLen {
			t.Errorf("%v: %d bytes, %v", p, len(b), e)
		}
		q, e := mapjnl.Parse(b)
		madePage(t, "Parse", q, e, p)
	}
}

func TestP64ParseOfLengths(t *testing.T) {
	noPage(t, "nil", nil)
	noPage(t, "empty", []byte{})
	noPage(t, "0s", make([]byte, api.PageLen))
	noPage(t, "1s", bytes.Repeat([]byte{0xff}, api.PageLen))
	for _, p := range rightPages() {
		b, _ := mapjnl.Bytes(p)
		noPage(t, "a byte less", b[:api.PageLen-1])
		noPage(t, "the head alone", b[:16])
		noPage(t, "a byte more", append(slices.Clone(b), 0))
		noPage(t, "twice", append(slices.Clone(b), b...))
	}
}

// Each byte that must be 0, made 1 (and each of its bits).
func TestP64ParseOfZeros(t *testing.T) {
	zeros := func(name string, b []byte, places ...int) {
		t.Helper()
		if _, e := mapjnl.Parse(b); e != api.OK {
			t.Fatal(name, e)
		}
		for _, at := range places {
			for bit := range 8 {
				c := slices.Clone(b)
				c[at] = 1 << bit
				noPage(t, name+": byte "+strconv.Itoa(at), c)
			}
		}
	}
	upTo := func(from, to int) []int {
		var l []int
		for i := from; i < to; i++ {
			l = append(l, i)
		}
		return l
	}
	head := upTo(3, 8)
	b, _ := mapjnl.Bytes(partPage(5, 1, of(16, bad(1), wear(2, 3), seq(4))))
	zeros("a part", b, slices.Concat(head, upTo(26, 32), upTo(32+48, 256))...)
	b, _ = mapjnl.Bytes(partPage(5, 1, of(64)))
	zeros("a full part", b, slices.Concat(head, upTo(32+192, 256))...)
	b, _ = mapjnl.Bytes(recordPage(5, isBad(1), isWorn(2, 3), isUsed(4)))
	// Of the records: the bad one's Value, the highest bytes of the wear, the Block of the used one.
	zeros("records", b, slices.Concat([]int{1}, head, upTo(18, 26), upTo(28, 33), []int{37}, upTo(46, 256))...)
	b, _ = mapjnl.Bytes(recordPage(5))
	zeros("no records", b, slices.Concat([]int{1}, head, upTo(16, 256))...)
	b, _ = mapjnl.Bytes(recordPage(5, slices.Repeat([]api.MapRecord{isUsed(7)}, 24)...))
	zeros("full records", b, slices.Concat([]int{1}, head)...)
}

// The bits behind the blocks are 0, too.
func TestP64ParseOfBits(t *testing.T) {
	for _, many := range []int{1, 7, 8, 9, 16, 62, 63, 64} {
		b, e := mapjnl.Bytes(partPage(5, 1, of(many)))
		is(t, "Bytes", e, api.OK)
		for j := range 64 {
			c := slices.Clone(b)
			c[24+j/8] |= 1 << (j % 8)
			if j >= many {
				noPage(t, strconv.Itoa(many)+" blocks, bit "+strconv.Itoa(j), c)
				continue
			}
			p, e := mapjnl.Parse(c)
			madePage(t, "a bad block", p, e, partPage(5, 1, of(many, bad(j))))
		}
	}
}

func TestP64ParseOfFields(t *testing.T) {
	part, _ := mapjnl.Bytes(partPage(5, 1, of(64, seq(4))))
	records, _ := mapjnl.Bytes(recordPage(5, slices.Repeat([]api.MapRecord{isBad(0)}, 24)...))
	with := func(b []byte, at int, put ...byte) []byte {
		c := slices.Clone(b)
		copy(c[at:], put)
		return c
	}
	for kind := range 256 {
		if kind != api.MpPart {
			noPage(t, "a part of another Kind", with(part, 0, byte(kind)))
		}
		if kind != api.MpRecords {
			noPage(t, "records of another Kind", with(records, 0, byte(kind)))
		}
	}
	for n := range 256 {
		p, e := mapjnl.Parse(with(part, 1, byte(n)))
		if n < 4 {
			madePage(t, "Part", p, e, partPage(5, n, of(64, seq(4))))
		} else {
			refusedPage(t, "Part "+strconv.Itoa(n), p, e, api.ErrPage)
		}
		if n > 0 {
			noPage(t, "records with a Part", with(records, 1, byte(n)))
		}
	}
	for many := range 256 {
		p, e := mapjnl.Parse(with(part, 2, byte(many)))
		if many >= 1 && many <= 64 {
			madePage(t, "how many", p, e, partPage(5, 1, of(many, seq(4))))
		} else {
			refusedPage(t, "how many blocks: "+strconv.Itoa(many), p, e, api.ErrPage)
		}
		// Fewer than stand there leave bytes behind them.
		if many != 24 {
			noPage(t, "how many records: "+strconv.Itoa(many), with(records, 2, byte(many)))
		}
	}
	for name, put := range map[string][]byte{
		"one beyond":   {0x10, 0, 0, 0, 0, 0, 0, 1},
		"far beyond":   {0x7f, 0xff, 0xff, 0xff, 0xff, 0xff, 0xff, 0xff},
		"below 0":      {0xff, 0xff, 0xff, 0xff, 0xff, 0xff, 0xff, 0xff},
		"the least":    {0x80, 0, 0, 0, 0, 0, 0, 0},
		"below 0 by 1": {0x80, 0, 0, 0, 0, 0, 0, 1},
	} {
		noPage(t, "Gen "+name, with(part, 8, put...))
		noPage(t, "Gen of records "+name, with(records, 8, put...))
		noPage(t, "Seq "+name, with(part, 16, put...))
		noPage(t, "a used one "+name, with(records, 16+10*23, append([]byte{3, 0}, put...)...))
		noPage(t, "a wear "+name, with(records, 16, append([]byte{2, 0}, put...)...))
	}
	most := []byte{0x10, 0, 0, 0, 0, 0, 0, 0}
	p, e := mapjnl.Parse(with(with(part, 8, most...), 16, most...))
	madePage(t, "MaxGen, MaxSeq", p, e, partPage(api.MaxGen, 1, of(64, seq(api.MaxSeq))))
	for kind := range 256 {
		// All bytes 0 behind the Kind: a bad block 0, a wear of 0, or a Seq of 0.
		p, e := mapjnl.Parse(with(records, 16+10*23, byte(kind)))
		if kind >= 1 && kind <= 3 {
			l := append(slices.Repeat([]api.MapRecord{isBad(0)}, 23), api.MapRecord{Kind: kind})
			madePage(t, "a record", p, e, recordPage(5, l...))
		} else {
			refusedPage(t, "a record of Kind "+strconv.Itoa(kind), p, e, api.ErrPage)
		}
	}
	noPage(t, "a wear of too much", with(records, 16, 2, 0, 0, 0, 0, 0, 1, 0, 0, 0))
	noPage(t, "a bad one with a Value", with(records, 16, 1, 0, 0, 0, 0, 0, 0, 0, 0, 1))
	noPage(t, "a used one with a Block", with(records, 16, 3, 1, 0, 0, 0, 0, 0, 0, 0, 1))
}

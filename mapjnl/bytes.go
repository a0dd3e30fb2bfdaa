package mapjnl

import (
	"slices"

	"slipway/api"
	"slipway/seal"
)

const bitsLen = api.PartBlocks / 8 // bytes of the bits that tell which blocks are bad

// The widths of fields, in bits.

func headWidths() []int { return []int{8, 8, 8, 40, 64} } // Kind, Part, how many, 0, Gen

func seqWidths() []int { return []int{64} }

func wearWidths(many int) []int { return slices.Repeat([]int{24}, many) }

func recordWidths() []int { return []int{8, 8, 64} } // Kind, Block, Value

// write is the bytes of a page that may be.
func write(p api.MapPage) []byte {
	b := make([]byte, api.PageLen)
	// A page has the one or the other.
	many := len(p.Bad) + len(p.Records)
	at := put(b, 0, headWidths(), uint64(p.Kind), uint64(p.Part), uint64(many), 0, uint64(p.Gen))
	switch p.Kind {
	case api.MpPart:
		at = put(b, at, seqWidths(), uint64(p.Seq))
		at += copy(b[at:], bitsOf(p.Bad))
		put(b, at, wearWidths(many), unsigned(p.Wear)...)
	case api.MpRecords:
		for _, r := range p.Records {
			at = put(b, at, recordWidths(), uint64(r.Kind), uint64(r.Block), uint64(r.Value))
		}
	}
	return b
}

// read is the page that bytes tell, which may be or not; more blocks or records than there is room for are left out.
func read(b []byte) api.MapPage {
	head, at := take(b, 0, headWidths())
	p := api.MapPage{Kind: int(head[0]), Part: int(head[1]), Gen: int64(head[4])}
	many := int(head[2])
	switch p.Kind {
	case api.MpPart:
		readPart(&p, b, at, min(many, api.PartBlocks))
	case api.MpRecords:
		readRecords(&p, b, at, min(many, api.MaxRecords))
	}
	return p
}

func readPart(p *api.MapPage, b []byte, at, many int) {
	seq, at := take(b, at, seqWidths())
	p.Seq = int64(seq[0])
	p.Bad = boolsOf(b[at:at+bitsLen], many)
	wears, _ := take(b, at+bitsLen, wearWidths(many))
	p.Wear = signed(wears)
}

func readRecords(p *api.MapPage, b []byte, at, many int) {
	for range many {
		var r []uint64
		r, at = take(b, at, recordWidths())
		p.Records = append(p.Records, api.MapRecord{Kind: int(r[0]), Block: int(r[1]), Value: int64(r[2])})
	}
}

// put copies values into their place in b, and tells the place behind them. All fit: the page may be.
func put(b []byte, at int, widths []int, values ...uint64) int {
	packed, _ := seal.Pack(widths, values...)
	return at + copy(b[at:], packed)
}

// take is the values at a place of b, and the place behind them.
func take(b []byte, at int, widths []int) ([]uint64, int) {
	n, _ := seal.Width(widths)
	values, _ := seal.Unpack(widths, b[at:at+n])
	return values, at + n
}

// bitsOf is bad as bits, of each byte the lowest one first.
func bitsOf(bad []bool) []byte {
	b := make([]byte, bitsLen)
	for i, is := range bad {
		if is {
			b[i/8] |= 1 << (i % 8)
		}
	}
	return b
}

func boolsOf(b []byte, many int) []bool {
	bad := make([]bool, many)
	for i := range bad {
		bad[i] = b[i/8]>>(i%8)&1 == 1
	}
	return bad
}

func unsigned(l []int64) []uint64 {
	u := make([]uint64, len(l))
	for i, n := range l {
		u[i] = uint64(n)
	}
	return u
}

func signed(l []uint64) []int64 {
	s := make([]int64, len(l))
	for i, n := range l {
		s[i] = int64(n)
	}
	return s
}

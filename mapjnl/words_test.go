package mapjnl_test

import (
	"bytes"
	"slices"
	"testing"

	"slipway/api"
	"slipway/mapjnl"
)

// What the chapter says, word by word and in no haste; any states, records and pages are held against it.

var sizes = []int{16, 64, 65, 128, 256}

// number is one from 0 to most: often at an end, often small.
func (s *stream) number(most int64) int64 {
	switch s.below(6) {
	case 0:
		return 0
	case 1:
		return most
	case 2:
		return int64(s.next()<<31|s.next()) % (most + 1)
	}
	return int64(s.below(5))
}

// state is one that may be.
func (s *stream) state(blocks int) api.MapState {
	x := of(blocks, seq(s.number(api.MaxSeq)))
	often := 1 + s.below(4)
	for i := range blocks {
		x.Bad[i] = s.below(5) >= often
		if s.below(5) >= often {
			x.Wear[i] = s.number(api.MaxWear)
		}
	}
	return x
}

// record is one that may be, of so many blocks.
func (s *stream) record(blocks int) api.MapRecord {
	switch s.below(3) {
	case 0:
		return isBad(s.below(blocks))
	case 1:
		return isWorn(s.below(blocks), s.number(api.MaxWear))
	}
	return isUsed(s.number(api.MaxSeq))
}

func (s *stream) records(blocks, most int) []api.MapRecord {
	var l []api.MapRecord
	for range s.below(most + 1) {
		l = append(l, s.record(blocks))
	}
	return l
}

// page is one that may be, of any chip.
func (s *stream) page() api.MapPage {
	if s.below(2) == 0 {
		return recordPage(s.number(api.MaxGen), s.records(256, 24)...)
	}
	return partPage(s.number(api.MaxGen), s.below(4), s.state([]int{1, 2, 8, 63, 64}[s.below(5)]))
}

// spoiled is a page with something changed, to what may be or not.
func (s *stream) spoiled(p api.MapPage) api.MapPage {
	p = copyOfPage(p)
	near := func(n, most int64) int64 { return []int64{n - 1, n + 1, -1, 0, 1, most, most + 1}[s.below(7)] }
	switch s.below(8) {
	case 0:
		p.Kind = int(near(int64(p.Kind), 3))
	case 1:
		p.Gen = near(p.Gen, api.MaxGen)
	case 2:
		p.Part = int(near(int64(p.Part), 3))
	case 3:
		p.Seq = near(p.Seq, api.MaxSeq)
	case 4:
		p.Bad = append(p.Bad, true)
	case 5:
		p.Wear = append(p.Wear, 1)
	case 6:
		if n := len(p.Wear); n > 0 {
			p.Wear[s.below(n)] = near(1, api.MaxWear)
		}
	default:
		p.Records = append(p.Records, s.record(256))
		s.spoil(&p.Records[s.below(len(p.Records))])
	}
	return p
}

// spoil changes something of a record, to what may be or not.
func (s *stream) spoil(r *api.MapRecord) {
	near := func(n, most int64) int64 { return []int64{n - 1, n + 1, -1, 0, 1, most, most + 1}[s.below(7)] }
	switch s.below(3) {
	case 0:
		r.Kind = int(near(int64(r.Kind), 3))
	case 1:
		r.Block = int(near(int64(r.Block), 255))
	default:
		r.Value = near(r.Value, []int64{0, api.MaxWear, api.MaxSeq}[s.below(3)])
	}
}

func copyOf(x api.MapState) api.MapState {
	return api.MapState{Bad: append([]bool{}, x.Bad...), Wear: append([]int64{}, x.Wear...), Seq: x.Seq}
}

func copyOfPage(p api.MapPage) api.MapPage {
	p.Bad, p.Wear, p.Records = append([]bool{}, p.Bad...), append([]int64{}, p.Wear...), append([]api.MapRecord{}, p.Records...)
	return p
}

// mayBe: P6.2's words of a record.
func mayBe(r api.MapRecord) bool {
	block := r.Block >= 0 && r.Block <= 255
	return r.Kind == 1 && block && r.Value == 0 ||
		r.Kind == 2 && block && r.Value >= 0 && r.Value <= 16777215 ||
		r.Kind == 3 && r.Block == 0 && r.Value >= 0 && r.Value <= 1<<60
}

// pageMayBe: P6.4's words of what Parse answers.
func pageMayBe(p api.MapPage) bool {
	if p.Gen < 0 || p.Gen > 1<<60 {
		return false
	}
	if p.Kind == 1 {
		if p.Part < 0 || p.Part > 3 || len(p.Bad) < 1 || len(p.Bad) > 64 || len(p.Wear) != len(p.Bad) || p.Seq < 0 || p.Seq > 1<<60 || len(p.Records) > 0 {
			return false
		}
		for _, n := range p.Wear {
			if n < 0 || n > 16777215 {
				return false
			}
		}
		return true
	}
	if p.Kind != 2 || p.Part != 0 || p.Seq != 0 || len(p.Bad) > 0 || len(p.Wear) > 0 || len(p.Records) > 24 {
		return false
	}
	for _, r := range p.Records {
		if !mayBe(r) {
			return false
		}
	}
	return true
}

// high is n as so many bytes, the highest first.
func high(n int64, length int) []byte {
	b := make([]byte, length)
	for i := range b {
		b[length-1-i] = byte(n)
		n >>= 8
	}
	return b
}

// bytesOf: P6.4's words of a page that may be.
func bytesOf(p api.MapPage) []byte {
	b := []byte{byte(p.Kind), byte(p.Part), byte(len(p.Bad) + len(p.Records)), 0, 0, 0, 0, 0}
	b = append(b, high(p.Gen, 8)...)
	if p.Kind == 1 {
		b = append(b, high(p.Seq, 8)...)
		var bits [8]byte
		for j, is := range p.Bad {
			if is {
				bits[j/8] += []byte{1, 2, 4, 8, 16, 32, 64, 128}[j%8]
			}
		}
		b = append(b, bits[:]...)
		for _, n := range p.Wear {
			b = append(b, high(n, 3)...)
		}
	}
	for _, r := range p.Records {
		b = append(append(b, byte(r.Kind), byte(r.Block)), high(r.Value, 8)...)
	}
	for len(b) < 256 {
		b = append(b, 0)
	}
	return b
}

// known: P6.5's words, block by block over all pages.
func known(blocks int, l []api.MapPage) (api.MapState, int64) {
	x := of(blocks)
	gen := int64(0)
	for _, p := range l {
		if !pageMayBe(p) {
			continue
		}
		gen = max(gen, p.Gen)
		x.Seq = max(x.Seq, p.Seq)
		for j := range p.Bad {
			if block := p.Part*64 + j; block < blocks {
				x.Bad[block] = x.Bad[block] || p.Bad[j]
				x.Wear[block] = max(x.Wear[block], p.Wear[j])
			}
		}
		for _, r := range p.Records {
			switch {
			case r.Kind == 3:
				x.Seq = max(x.Seq, r.Value)
			case r.Block >= blocks:
			case r.Kind == 1:
				x.Bad[r.Block] = true
			case r.Kind == 2:
				x.Wear[r.Block] = max(x.Wear[r.Block], r.Value)
			}
		}
	}
	return x, gen
}

// joined: P6.2's words.
func joined(a, b api.MapState) api.MapState {
	x := of(len(a.Bad), seq(max(a.Seq, b.Seq)))
	for i := range x.Bad {
		x.Bad[i], x.Wear[i] = a.Bad[i] || b.Bad[i], max(a.Wear[i], b.Wear[i])
	}
	return x
}

func TestP62ByTheWords(t *testing.T) {
	var s stream = 62
	covered := 0
	for range 400 {
		for _, blocks := range sizes {
			a, b := s.state(blocks), s.state(blocks)
			if s.below(3) == 0 {
				b = joined(a, b)
			}
			want := joined(a, b)
			x, e := mapjnl.Join(a, b)
			made(t, "Join", x, e, want)
			covers := equal(want, b)
			if mapjnl.Covers(b, a) != covers {
				t.Fatalf("Covers of %v and %v: %v", b, a, !covers)
			}
			l, e := mapjnl.Diff(a, b)
			if !covers {
				if e != api.ErrArg || l != nil {
					t.Fatal("Diff", l, e)
				}
				continue
			}
			covered++
			var records []api.MapRecord
			if b.Seq > a.Seq {
				records = append(records, isUsed(b.Seq))
			}
			for i := range blocks {
				if b.Bad[i] != a.Bad[i] {
					records = append(records, isBad(i))
				}
				if b.Wear[i] != a.Wear[i] {
					records = append(records, isWorn(i, b.Wear[i]))
				}
			}
			if e != api.OK || !slices.Equal(l, records) {
				t.Fatalf("Diff: %v, %v, want %v", l, e, records)
			}
		}
	}
	if covered < 400 {
		t.Error("but few states covered another:", covered)
	}
}

func TestP62ApplyByTheWords(t *testing.T) {
	var s stream = 622
	right, wrong := 0, 0
	for range 2000 {
		blocks := sizes[s.below(len(sizes))]
		x := s.state(blocks)
		l := s.records(blocks, 20)
		if len(l) > 0 && s.below(3) == 0 {
			s.spoil(&l[s.below(len(l))])
		}
		ok := true
		for _, r := range l {
			ok = ok && mayBe(r) && r.Block < blocks
		}
		got, e := mapjnl.Apply(x, l...)
		if !ok {
			wrong++
			refused(t, "Apply", got, e, api.ErrRecord)
			continue
		}
		right++
		// As Replay's words say it of a page of records, and of a state that knows x.
		want := copyOf(x)
		for _, r := range l {
			y, _ := known(blocks, []api.MapPage{recordPage(0, r)})
			want = joined(want, y)
		}
		made(t, "Apply", got, e, want)
	}
	if right < 1000 || wrong < 100 {
		t.Error("too few", right, wrong)
	}
}

func TestP64ByTheWords(t *testing.T) {
	var s stream = 64
	right, wrong := 0, 0
	for n := range 6000 {
		p := s.page()
		if n%2 == 1 {
			p = s.spoiled(p)
		}
		b, e := mapjnl.Bytes(p)
		if !pageMayBe(p) {
			wrong++
			if e != api.ErrPage || b != nil {
				t.Fatalf("Bytes of %v: % x, %v", p, b, e)
			}
			continue
		}
		right++
		if e != api.OK || !bytes.Equal(b, bytesOf(p)) {
			t.Fatalf("Bytes of %v: % x, %v, want % x", p, b, e, bytesOf(p))
		}
		q, e := mapjnl.Parse(b)
		madePage(t, "Parse", q, e, p)
	}
	if right < 3000 || wrong < 1000 {
		t.Error("too few", right, wrong)
	}
}

// Bytes of which some were changed are a page's, or none: what Parse takes, Bytes makes again, and no two pages have the same.
func TestP64AnyBytes(t *testing.T) {
	var s stream = 641
	taken, left := 0, 0
	for range 6000 {
		b := bytesOf(s.page())
		for range 1 + s.below(3) {
			at := []int{s.below(4), s.below(32), s.below(256)}[s.below(3)]
			switch s.below(3) {
			case 0:
				b[at] = byte(s.next())
			case 1:
				b[at] = byte(s.below(4))
			default:
				b[at] ^= 1 << s.below(8)
			}
		}
		was := slices.Clone(b)
		p, e := mapjnl.Parse(b)
		if !bytes.Equal(b, was) {
			t.Fatal("Parse wrote to what was handed in")
		}
		if e == api.OK {
			taken++
			if !pageMayBe(p) || !bytes.Equal(bytesOf(p), b) {
				t.Fatalf("Parse of % x: %v", b, p)
			}
			continue
		}
		left++
		refusedPage(t, "Parse", p, e, api.ErrPage)
		if q := fields(b); pageMayBe(q) && bytes.Equal(bytesOf(q), b) {
			t.Fatalf("Parse of the bytes of %v: %v", q, e)
		}
	}
	if taken < 1000 || left < 1000 {
		t.Error("too few", taken, left)
	}
}

// fields is the page whose bytes these would be, if they are a page's.
func fields(b []byte) api.MapPage {
	number := func(at, length int) int64 {
		n := int64(0)
		for _, x := range b[at : at+length] {
			n = n<<8 | int64(x)
		}
		return n
	}
	p := api.MapPage{Kind: int(b[0]), Part: int(b[1]), Gen: number(8, 8)}
	many := int(b[2])
	switch {
	case p.Kind == 1 && many <= 64:
		p.Seq = number(16, 8)
		for j := range many {
			p.Bad = append(p.Bad, b[24+j/8]&(1<<(j%8)) != 0)
			p.Wear = append(p.Wear, number(32+3*j, 3))
		}
	case p.Kind == 2 && many <= 24:
		for i := range many {
			p.Records = append(p.Records, api.MapRecord{Kind: int(b[16+10*i]), Block: int(b[17+10*i]), Value: number(18+10*i, 8)})
		}
	}
	return p
}

func TestP65ByTheWords(t *testing.T) {
	var s stream = 65
	for range 300 {
		for _, blocks := range append([]int{17, 129, 255}, sizes...) {
			var l []api.MapPage
			for range s.below(8) {
				p := s.page()
				if s.below(3) == 0 {
					p = s.spoiled(p)
				}
				l = append(l, p)
			}
			want, gen := known(blocks, l)
			x, g, e := mapjnl.Replay(blocks, l...)
			made(t, "Replay", x, e, want)
			if g != gen {
				t.Fatal("Replay: gen", g, "want", gen)
			}
		}
	}
}

package dirent

import (
	"slices"

	"slipway/api"
)

// record is one record of a block: where it begins, how long it is, and the entry that it has (if it has none, the empty one).
type record struct {
	at, length int
	entry      api.Entry
}

func (r record) hasEntry() bool {
	return r.entry.Inode != 0
}

// spare is how many bytes of a record a new one may have.
func (r record) spare() int {
	if !r.hasEntry() {
		return r.length
	}
	return r.length - need(r.entry.Name)
}

// need is how long a record of that name is at least.
func need(name string) int {
	return (api.DirHead + len(name) + 3) / 4 * 4
}

// split is what is left of a record, and the new one in all that it can spare. Of a record without an entry nothing is left: the new one stands where it did, and must be laid behind it.
func split(r record) (record, record) {
	spare := r.spare()
	r.length -= spare
	return r, record{at: r.at + r.length, length: spare}
}

// recordsOf are the records of a block, and whether it may be.
func recordsOf(b []byte) ([]record, api.Errno) {
	if len(b) != api.PageLen {
		return nil, api.ErrDir
	}
	var records []record
	at := 0
walk:
	for at < len(b) {
		r, ok := recordAt(b, at)
		switch {
		case !ok, placeOf(records, r.entry.Name) >= 0:
			break walk
		default:
			records = append(records, r)
			at += r.length
		}
	}
	if at < len(b) {
		return nil, api.ErrDir
	}
	return records, api.OK
}

// recordAt is the record that begins at a place of a block, and whether it may be.
func recordAt(b []byte, at int) (record, bool) {
	if len(b)-at < api.DirHead {
		return record{}, false
	}
	head, rest := b[at:at+api.DirHead], b[at+api.DirHead:]
	r := record{at: at, length: number(head[4:6])}
	nameLen := int(head[6])
	if nameLen > len(rest) {
		return record{}, false
	}
	r.entry = api.Entry{Name: string(rest[:nameLen]), Inode: number(head[:4]), Kind: int(head[7])}
	if r.length%4 != 0 || r.length < need(r.entry.Name) || r.length > len(b)-at {
		return record{}, false
	}
	if !r.hasEntry() {
		return r, r.entry == api.Entry{}
	}
	return r, Check(r.entry) == api.OK
}

// placeOf is the place among records of the one with the entry of a name, -1 if there is none.
func placeOf(records []record, name string) int {
	return slices.IndexFunc(records, func(r record) bool { return r.hasEntry() && r.entry.Name == name })
}

// with is a copy of a block in which some records are these.
func with(b []byte, records ...record) []byte {
	now := slices.Clone(b)
	for _, r := range records {
		lay(now, r)
	}
	return now
}

// lay writes a record's head and its name alone: what stands behind the name is left as it is.
func lay(b []byte, r record) {
	head := b[r.at : r.at+api.DirHead]
	putNumber(head[:4], r.entry.Inode)
	putNumber(head[4:6], r.length)
	head[6] = byte(len(r.entry.Name))
	head[7] = byte(r.entry.Kind)
	copy(b[r.at+api.DirHead:], r.entry.Name)
}

// number is bytes as a number, the highest one first; putNumber fills bytes with one.
func number(b []byte) int {
	n := 0
	for _, x := range b {
		n = n<<8 | int(x)
	}
	return n
}

func putNumber(b []byte, n int) {
	for i := len(b) - 1; i >= 0; i-- {
		b[i] = byte(n)
		n >>= 8
	}
}

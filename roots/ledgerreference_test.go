package roots_test

import (
	"encoding/binary"
	"fmt"
	"hash/crc32"
	"slices"
	"strings"
	"testing"

	"roots/api"
	"roots/roots"
)

// The other way to ledgers: all lists are kept whole and hashed anew, and the bytes of the disk are put together by the library.

// refBook is what a ledger knows, and what its disk has.
type refBook struct {
	waiting, order []api.Change
	records        []api.Record
	maps           []refMap
	disk           string
}

// refChange is a change as bytes.
func refChange(c api.Change) string {
	s := string([]byte{byte(c.Kind)}) + refShort(len(c.Key)) + string(c.Key)
	if c.Kind == 0 || c.Kind == 2 {
		s += refShort(len(c.Value)) + string(c.Value)
	}
	if c.Kind == 2 {
		s += string(c.Old[:])
	}
	return s
}

// refRecord is a record as bytes.
func refRecord(r api.Record) string {
	return refLong(r.Size) + string(r.Log[:]) + string(r.Map[:])
}

// refShort and refLong are numbers of two and of four bytes.
func refShort(n int) string { return string(binary.BigEndian.AppendUint16(nil, uint16(n))) }
func refLong(n int) string  { return string(binary.BigEndian.AppendUint32(nil, uint32(n))) }

// refFrame is the frame around bytes.
func refFrame(s string) string {
	return refLong(len(s)) + s + refLong(int(crc32.ChecksumIEEE([]byte(s))))
}

func (b *refBook) queue(c api.Change) {
	b.waiting = append(slices.Clone(b.waiting), c)
	b.disk += refFrame("Q" + refChange(c))
}

func (b *refBook) sequence(n int) int {
	n = min(n, len(b.waiting))
	if n > 0 {
		b.order = append(slices.Clone(b.order), b.waiting[:n]...)
		b.waiting = b.waiting[n:]
		b.disk += refFrame("S" + refLong(n))
	}
	return n
}

func (b *refBook) publish(n int) int {
	from := 0
	if len(b.records) > 0 {
		from = b.records[len(b.records)-1].Size
	}
	n = min(n, len(b.order)-from)
	if n > 0 {
		r, m := b.recordOf(from + n)
		b.records = append(slices.Clone(b.records), r)
		b.maps = append(slices.Clone(b.maps), m)
		b.disk += refFrame("P" + refRecord(r))
	}
	return n
}

// recordOf is the record of the first changes in their order, and the map that they make.
func (b *refBook) recordOf(size int) (api.Record, refMap) {
	m := refMapOf(b.order[:size]...)
	return api.Record{Size: size, Log: refRoot(b.leaves()[:size]), Map: refLevelsOf(m).root()}, m
}

// leaves are the changes in their order, each as its bytes.
func (b *refBook) leaves() (l [][]byte) {
	for _, c := range b.order {
		l = append(l, []byte(refChange(c)))
	}
	return l
}

// heads are P15's.
func (b *refBook) heads() (changes, records api.Head) {
	var l [][]byte
	for _, r := range b.records {
		l = append(l, []byte(refRecord(r)))
	}
	return api.Head{Size: len(b.order), Root: refRoot(b.leaves())}, api.Head{Size: len(l), Root: refRoot(l)}
}

// mapOf is the map of record k.
func (b *refBook) mapOf(k int) refMap {
	if k < 0 {
		return refMap{}
	}
	return b.maps[k]
}

// everything is all that a ledger tells, of these keys, as a text.
func everything(x *roots.Ledger, keys []string) string {
	var s strings.Builder
	changes, records := x.Heads()
	fmt.Fprintln(&s, x.Waiting(), changes, records)
	for k := -1; k < records.Size; k++ {
		r, err := x.Record(k)
		fmt.Fprintln(&s, k, r, err)
		for _, key := range keys {
			a, err := x.Get([]byte(key), k)
			fmt.Fprintln(&s, key, a, err)
		}
	}
	for n := range changes.Size + 1 {
		for m := range n + 1 {
			p, err := x.Path(m, n)
			fmt.Fprintln(&s, p, err)
			p, err = x.Between(m, n)
			fmt.Fprintln(&s, p, err)
		}
	}
	fmt.Fprintf(&s, "%x\n", x.Export())
	return s.String()
}

// checkBook holds the short answers of a ledger against the other way.
func checkBook(t *testing.T, what string, x *roots.Ledger, b refBook) {
	t.Helper()
	if x.Waiting() != len(b.waiting) {
		t.Errorf("P15: %s: %d wait, want %d", what, x.Waiting(), len(b.waiting))
	}
	changes, records := x.Heads()
	wantChanges, wantRecords := b.heads()
	if changes != wantChanges {
		t.Errorf("P15: %s: the head of the changes: %d %s, want %d %s", what, changes.Size, shorts(changes.Root), wantChanges.Size, shorts(wantChanges.Root))
	}
	if records != wantRecords {
		t.Errorf("P15: %s: the head of the records: %d %s, want %d %s", what, records.Size, shorts(records.Root), wantRecords.Size, shorts(wantRecords.Root))
	}
	for k, want := range b.records {
		if r, err := x.Record(k); r != want || err != nil {
			t.Errorf("P11, P15: %s: record %d: %d %s, %v, want %d %s", what, k, r.Size, shorts(r.Log, r.Map), err, want.Size, shorts(want.Log, want.Map))
		}
	}
	if got, want := string(x.Export()), b.export(); got != want {
		t.Errorf("P17: %s: Export tells %x, want %x", what, got, want)
	}
}

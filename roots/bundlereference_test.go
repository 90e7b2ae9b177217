package roots_test

import (
	"encoding/binary"
	"slices"
	"strings"

	"roots/api"
)

// The other way to bundles: all their parts side by side, so that one of them can be wrong and all others right; and the check of one by making it anew from what it tells.

// refBundle has the parts of a bundle, as they are to lie in it.
type refBundle struct {
	mark    string
	changes int // how many it says there are
	texts   []string
	lengths []int // what it says of each text
	records int   // how many it says there are
	told    []api.Record
	heads   [2]api.Sum
}

// refBundleOf is the bundle of these texts and records, whatever they are, with the counts, lengths and roots that belong to them.
func refBundleOf(texts []string, records []api.Record) refBundle {
	b := refBundle{mark: "RB1", changes: len(texts), texts: texts, records: len(records), told: records}
	var leaves, more [][]byte
	for _, s := range texts {
		b.lengths = append(b.lengths, len(s))
		leaves = append(leaves, []byte(s))
	}
	for _, r := range records {
		more = append(more, []byte(refRecord(r)))
	}
	b.heads = [2]api.Sum{refRoot(leaves), refRoot(more)}
	return b
}

// bytes is P17.
func (b refBundle) bytes() string {
	pieces := []string{b.mark, refLong(b.changes)}
	for i, text := range b.texts {
		pieces = append(pieces, refShort(b.lengths[i]), text)
	}
	pieces = append(pieces, refLong(b.records))
	for _, r := range b.told {
		pieces = append(pieces, refRecord(r))
	}
	return strings.Join(append(pieces, string(b.heads[0][:]), string(b.heads[1][:])), "")
}

// texts are the changes in their order, as bytes.
func (b *refBook) texts() (l []string) {
	for _, c := range b.order {
		l = append(l, refChange(c))
	}
	return l
}

// export is what a ledger exports.
func (b *refBook) export() string {
	return refBundleOf(b.texts(), slices.Clone(b.records)).bytes()
}

// refAudit is P18: the ledger is made that would export these bytes, if any does, and what it exports is held against them.
func refAudit(s string) (changes, records api.Head, ok bool) {
	var b refBook
	rest, ok := strings.CutPrefix(s, "RB1")
	number := func(size int) (n int) {
		if len(rest) < size {
			ok, rest = false, ""
			return 0
		}
		n = int(binary.BigEndian.Uint64([]byte(strings.Repeat("\x00", 8-size) + rest[:size])))
		rest = rest[size:]
		return n
	}
	for n := number(4); n > 0 && ok; n-- {
		size := min(number(2), len(rest))
		c, is := refDecoded(rest[:size])
		ok, rest = ok && is, rest[size:]
		b.order = append(b.order, c)
	}
	last := 0
	for n := number(4); n > 0 && ok; n-- {
		size := number(4)
		ok = ok && size > last && size <= len(b.order) && len(rest) >= 64
		if ok {
			b.publish(size - last)
			rest, last = rest[64:], size
		}
	}
	if !ok || b.export() != s {
		return api.Head{}, api.Head{}, false
	}
	changes, records = b.heads()
	return changes, records, true
}

// refDecoded is the change of which a text is the bytes, if there is one.
func refDecoded(s string) (c api.Change, ok bool) {
	text := func(from int) []byte {
		if len(s) < from+2 {
			return nil
		}
		n := int(s[from])<<8 | int(s[from+1])
		return []byte(s[from+2 : min(from+2+n, len(s))])
	}
	if s == "" {
		return c, false
	}
	c.Kind, c.Key = int(s[0]), text(1)
	if c.Kind != 1 {
		c.Value = text(3 + len(c.Key))
	}
	if c.Kind == 2 && len(s) >= 32 {
		c.Old = api.Sum([]byte(s[len(s)-32:]))
	}
	return c, c.Kind <= 2 && len(c.Key) <= 20 && len(c.Value) <= 40 && refChange(c) == s
}

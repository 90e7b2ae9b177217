package ledger

import (
	"roots/api"
	"roots/coding"
)

// bundleMark is what a bundle begins with (P17).
const bundleMark = "RB1"

// Export tells all that has its place or is known, as bytes in new memory (P17).
func (b *Book) Export() []byte {
	out := coding.AppendNumber([]byte(bundleMark), 4, uint32(len(b.order)))
	for _, c := range b.order {
		out = coding.AppendText(out, coding.AppendChange(nil, c))
	}
	out = coding.AppendNumber(out, 4, uint32(b.known()))
	for _, s := range b.stages[1:] {
		out = coding.AppendRecord(out, s.record)
	}
	changes, records := b.Heads()
	out = append(out, changes.Root[:]...)
	return append(out, records.Root[:]...)
}

// Audit has the heads of the ledger of which the bytes are what Export tells (P18).
func Audit(bundle []byte) (changes, records api.Head, e api.Errno) {
	b := Dead() // a bundle comes without a disk
	if !coding.Sound(func() { b.relive(coding.NewReader(bundle)) }) {
		return api.Head{}, api.Head{}, api.ErrBundle
	}
	changes, records = b.Heads()
	return changes, records, api.OK
}

// relive does with an empty book what a bundle tells, as a disk's frames would have, if that can be. The changes stay pieces of the bundle, so the book is not to outlive the call that has it. It stands inside of coding.Sound.
func (b *Book) relive(r *coding.Reader) {
	coding.Need(string(r.Take(len(bundleMark))) == bundleMark)
	for range r.Number(4) {
		inside := coding.NewReader(r.Text())
		c := inside.Change()
		inside.End()
		b.wait(c)
	}
	b.place(len(b.waiting))
	for range r.Number(4) {
		b.learn(r.Record())
	}
	changes, records := b.Heads()
	coding.Need(r.Sum() == changes.Root)
	coding.Need(r.Sum() == records.Root)
	r.End()
}

// Package ledger: what a ledger knows (P11), how it is written to a disk and read from it (P12 to P14), what it tells (P15), and what it hands out to others, who need not trust it (P17, P18).
package ledger

import (
	"bytes"

	"roots/api"
	"roots/coding"
	"roots/places"
	"roots/tree"
)

// Book is what a ledger knows, and the disk that has it.
type Book struct {
	disk    guarded
	dead    bool
	waiting []api.Change
	order   []api.Change
	leaves  []api.Sum  // the hash of each change in order, as its bytes
	changes tree.Grown // the list of these
	stages  []stage    // that of no changes, and behind it those that were made known
	records tree.Grown // the list of the records, each as its bytes
}

// stage is what the first changes in their order make: what a record tells, and what it is told of.
type stage struct {
	record api.Record
	list   tree.Grown
	places places.Map
}

// empty is the book in which nothing is.
func empty(d api.Disk) *Book {
	return &Book{disk: guarded{d}, stages: []stage{{places: places.Empty()}}}
}

// Dead is an empty book without a disk. It stands for a ledger that was not opened.
func Dead() *Book {
	b := empty(nil)
	b.dead = true
	return b
}

// after is the stage behind s, with more changes, whose hashes are leaves.
func (s stage) after(changes []api.Change, leaves []api.Sum) stage {
	for _, c := range changes {
		s.places = s.places.After(c)
	}
	s.list = s.list.With(leaves...)
	s.record = api.Record{Size: s.record.Size + len(changes), Log: s.list.Root(), Map: s.places.Root()}
	return s
}

// last is the stage that was made known last.
func (b *Book) last() stage {
	return b.stages[len(b.stages)-1]
}

// unknown is how many changes in their order no record tells of.
func (b *Book) unknown() int {
	return len(b.order) - b.last().record.Size
}

// next is the stage of n changes more than the last one has.
func (b *Book) next(n int) stage {
	from := b.last().record.Size
	return b.last().after(b.order[from:from+n], b.leaves[from:from+n])
}

// wait puts a change, which the book owns, behind all that wait.
func (b *Book) wait(c api.Change) {
	b.waiting = append(b.waiting, c)
}

// place gives the first n that wait their places.
func (b *Book) place(n int) {
	first := b.waiting[:n:n]
	var texts [][]byte
	for _, c := range first {
		texts = append(texts, coding.AppendChange(nil, c))
	}
	leaves := tree.Leaves(texts)
	b.order = append(b.order, first...)
	b.leaves = append(b.leaves, leaves...)
	b.changes = b.changes.With(leaves...)
	b.waiting = b.waiting[n:]
}

// know makes a stage known.
func (b *Book) know(s stage) {
	b.stages = append(b.stages, s)
	b.records = b.records.With(tree.Leaf(coding.AppendRecord(nil, s.record)))
}

// owned is a change in memory of its own, without what its kind says nothing of.
func owned(c api.Change) api.Change {
	own := api.Change{Kind: c.Kind, Key: bytes.Clone(c.Key)}
	if coding.HasValue(c.Kind) {
		own.Value = bytes.Clone(c.Value)
	}
	if c.Kind == api.Swap {
		own.Old = c.Old
	}
	return own
}

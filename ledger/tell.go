package ledger

import (
	"roots/api"
	"roots/tree"
)

// Waiting is how many changes wait (P15).
func (b *Book) Waiting() int {
	return len(b.waiting)
}

// Heads are those of the changes in their order and of the records (P15).
func (b *Book) Heads() (changes, records api.Head) {
	changes = api.Head{Size: len(b.order), Root: b.changes.Root()}
	records = api.Head{Size: b.known(), Root: b.records.Root()}
	return changes, records
}

// known is how many records there are. The first stage has none.
func (b *Book) known() int {
	return len(b.stages) - 1
}

// Record is record k (P15).
func (b *Book) Record(k int) (api.Record, api.Errno) {
	if k < 0 || k >= b.known() {
		return api.Record{}, api.ErrRange
	}
	return b.stages[k+1].record, api.OK
}

// Get is what the map of record k has for a key (P15).
func (b *Book) Get(key []byte, k int) (api.Answer, api.Errno) {
	if k < -1 || k >= b.known() {
		return api.Answer{Record: -1}, api.ErrRange
	}
	value, present, proof := b.stages[k+1].places.Get(key)
	return api.Answer{Present: present, Value: value, Record: k, Proof: proof}, api.OK
}

// Path leads from change i of the first n to their root (P15).
func (b *Book) Path(i, n int) ([]api.Sum, api.Errno) {
	if i < 0 || i >= n || n > len(b.leaves) {
		return nil, api.ErrRange
	}
	return tree.Path(b.leaves[:n], i), api.OK
}

// Between leads from the first m changes to the first n (P15).
func (b *Book) Between(m, n int) ([]api.Sum, api.Errno) {
	if m < 0 || m > n || n > len(b.leaves) {
		return nil, api.ErrRange
	}
	return tree.Between(b.leaves[:n], m), api.OK
}

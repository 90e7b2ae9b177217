// Package roots: hash trees, and a ledger: see DOC.md.
package roots

import "roots/api"

// Ledger is one on a disk.
type Ledger struct{}

// Open opens the ledger of a disk (P12).
func Open(d api.Disk) (*Ledger, error) { return nil, nil }

// Queue hands in a change (P13).
func (x *Ledger) Queue(c api.Change) error { return nil }

// Sequence gives changes their places (P13).
func (x *Ledger) Sequence(n int) (int, error) { return 0, nil }

// Publish makes a map known (P14).
func (x *Ledger) Publish(n int) (int, error) { return 0, nil }

// Waiting tells how many changes wait (P15).
func (x *Ledger) Waiting() int { return 0 }

// Heads tells the heads of the changes and of the records (P15).
func (x *Ledger) Heads() (changes, records api.Head) { return changes, records }

// Record tells a record (P15).
func (x *Ledger) Record(k int) (api.Record, error) { return api.Record{}, nil }

// Get tells what the map of a record has for a key (P15).
func (x *Ledger) Get(key []byte, record int) (api.Answer, error) { return api.Answer{}, nil }

// Path leads from change i of the first n to their root (P15).
func (x *Ledger) Path(i, n int) ([]api.Sum, error) { return nil, nil }

// Between leads from the first m changes to the first n (P15).
func (x *Ledger) Between(m, n int) ([]api.Sum, error) { return nil, nil }

// Export tells all as bytes (P17).
func (x *Ledger) Export() []byte { return nil }

// Audit tells whether bytes are what Export tells, and all is so (P18).
func Audit(b []byte) (changes, records api.Head, err error) { return changes, records, nil }

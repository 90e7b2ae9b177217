package roots

import (
	"roots/api"
	"roots/ledger"
)

// Ledger is one on a disk.
type Ledger struct {
	book *ledger.Book
}

// Open opens the ledger of a disk (P12).
func Open(d api.Disk) (*Ledger, error) {
	b, e := ledger.Open(d)
	if e != api.OK {
		return nil, failed("Open", e)
	}
	return &Ledger{b}, nil
}

// held is the ledger's book. A Ledger that Open did not make has none, and no disk: it is empty and dead, so that its calls need not panic.
func (x *Ledger) held() *ledger.Book {
	if x == nil || x.book == nil {
		return ledger.Dead()
	}
	return x.book
}

// Queue hands in a change (P13).
func (x *Ledger) Queue(c api.Change) error {
	return failed("Queue", x.held().Queue(c))
}

// Sequence gives changes their places (P13).
func (x *Ledger) Sequence(n int) (int, error) {
	k, e := x.held().Sequence(n)
	return k, failed("Sequence", e)
}

// Publish makes a map known (P14).
func (x *Ledger) Publish(n int) (int, error) {
	k, e := x.held().Publish(n)
	return k, failed("Publish", e)
}

// Waiting tells how many changes wait (P15).
func (x *Ledger) Waiting() int {
	return x.held().Waiting()
}

// Heads tells the heads of the changes and of the records (P15).
func (x *Ledger) Heads() (changes, records api.Head) {
	return x.held().Heads()
}

// Record tells a record (P15).
func (x *Ledger) Record(k int) (api.Record, error) {
	r, e := x.held().Record(k)
	return r, failed("Record", e)
}

// Get tells what the map of a record has for a key (P15).
func (x *Ledger) Get(key []byte, record int) (api.Answer, error) {
	a, e := x.held().Get(key, record)
	return a, failed("Get", e)
}

// Path leads from change i of the first n to their root (P15).
func (x *Ledger) Path(i, n int) ([]api.Sum, error) {
	l, e := x.held().Path(i, n)
	return l, failed("Path", e)
}

// Between leads from the first m changes to the first n (P15).
func (x *Ledger) Between(m, n int) ([]api.Sum, error) {
	l, e := x.held().Between(m, n)
	return l, failed("Between", e)
}

package coding

import "roots/api"

// fault is what a reading panics with, so that it ends at the first thing that cannot be, however deep in it that is. It does not leave Sound.
type fault struct{}

// Sound tells whether a reading came to its end without a fault.
func Sound(read func()) (ok bool) {
	defer func() {
		if p := recover(); p != nil && p != any(fault{}) {
			panic(p) // not of the reading: it must not pass for bytes that are wrong
		}
	}()
	read()
	return true
}

// Need ends the reading that it is in, unless what it needs is so.
func Need(so bool) {
	if !so {
		panic(fault{})
	}
}

// Reader takes bytes apart, from the first on. Its calls stand inside of Sound.
type Reader struct {
	rest []byte
}

// NewReader is the reader of b, which it neither changes nor copies.
func NewReader(b []byte) *Reader {
	return &Reader{b}
}

// Take is the next n bytes, which cannot grow into those behind them.
func (r *Reader) Take(n int) []byte {
	Need(n <= len(r.rest))
	piece := r.rest[:n:n]
	r.rest = r.rest[n:]
	return piece
}

// Rest is what was not yet taken.
func (r *Reader) Rest() []byte {
	return r.rest
}

// End needs that all was taken.
func (r *Reader) End() {
	Need(len(r.rest) == 0)
}

// Number is a number of so many bytes, four at the most, the high one first.
func (r *Reader) Number(size int) uint32 {
	var n uint32
	for _, b := range r.Take(size) {
		n = n<<8 | uint32(b)
	}
	return n
}

// Sum is a hash.
func (r *Reader) Sum() api.Sum {
	return api.Sum(r.Take(len(api.Sum{})))
}

// Change is a change (P12); its key and its value are pieces of what is read.
func (r *Reader) Change() api.Change {
	c := api.Change{Kind: int(r.Number(1))}
	Need(c.Kind <= api.Swap)
	c.Key = r.Text()
	Need(len(c.Key) <= api.MaxKey)
	if HasValue(c.Kind) {
		c.Value = r.Text()
		Need(len(c.Value) <= api.MaxValue)
	}
	if c.Kind == api.Swap {
		c.Old = r.Sum()
	}
	return c
}

// Text is a text (a key, a value, a change as bytes) that has its length, two bytes, ahead of it.
func (r *Reader) Text() []byte {
	return r.Take(int(r.Number(2)))
}

// Record is a record (P12).
func (r *Reader) Record() api.Record {
	return api.Record{Size: int(r.Number(4)), Log: r.Sum(), Map: r.Sum()}
}

package ledger

import (
	"roots/api"
	"roots/coding"
	"roots/frames"
)

// Queue lets a change wait (P13).
func (b *Book) Queue(c api.Change) api.Errno {
	if e := refused(c); e != api.OK {
		return e
	}
	c = owned(c)
	return b.written(coding.AppendChange([]byte{letterWait}, c), func() { b.wait(c) })
}

// refused tells why a change may not be; OK: it may.
func refused(c api.Change) api.Errno {
	switch {
	case c.Kind != api.Set && c.Kind != api.Delete && c.Kind != api.Swap:
		return api.ErrRange
	case len(c.Key) > api.MaxKey, coding.HasValue(c.Kind) && len(c.Value) > api.MaxValue:
		return api.ErrLong
	}
	return api.OK
}

// Sequence gives the first n that wait their places, and tells how many these are (P13).
func (b *Book) Sequence(n int) (int, api.Errno) {
	n, e := b.some(n, len(b.waiting))
	if n == 0 {
		return 0, e
	}
	inside := coding.AppendNumber([]byte{letterPlace}, 4, uint32(n))
	return told(n, b.written(inside, func() { b.place(n) }))
}

// Publish makes known what n changes more make, and tells how many these are (P14).
func (b *Book) Publish(n int) (int, api.Errno) {
	n, e := b.some(n, b.unknown())
	if n == 0 {
		return 0, e
	}
	s := b.next(n)
	inside := coding.AppendRecord([]byte{letterKnow}, s.record)
	return told(n, b.written(inside, func() { b.know(s) }))
}

// some is how many of those that are there are taken, when n are asked for; 0 with an error.
func (b *Book) some(n, there int) (int, api.Errno) {
	switch {
	case n < 1:
		return 0, api.ErrRange
	case b.dead:
		return 0, api.ErrDead
	}
	return min(n, there), api.OK
}

// told is a number, or an error alone.
func told(n int, e api.Errno) (int, api.Errno) {
	if e != api.OK {
		return 0, e
	}
	return n, api.OK
}

// written puts a frame on the disk, and then does what the frame says (P13). With an error it does nothing.
func (b *Book) written(inside []byte, then func()) api.Errno {
	if b.dead {
		return api.ErrDead
	}
	b.dead = true // until the disk has said otherwise: one that calls the ledger meanwhile changes nothing
	answer := b.disk.append(frames.Around(inside))
	if answer == noRoom {
		b.dead = false
		return api.ErrFull
	}
	if answer != done || !b.disk.sync() {
		return api.ErrDead
	}
	b.dead = false
	then()
	return api.OK
}

package ledger

import (
	"roots/api"
	"roots/coding"
	"roots/frames"
)

// The letters of what is in a frame (P12).
const (
	letterWait  = 'Q'
	letterPlace = 'S'
	letterKnow  = 'P'
)

// Open is the book of what is on a disk (P12). Nothing is cut off a disk that is no ledger.
func Open(d api.Disk) (*Book, api.Errno) {
	b := empty(d)
	all, ok := b.disk.bytes()
	if !ok {
		return nil, api.ErrDead
	}
	var left []byte
	if !coding.Sound(func() { left = b.replay(all) }) {
		return nil, api.ErrDisk
	}
	if len(left) > 0 && !b.disk.cut(len(all)-len(left)) {
		return nil, api.ErrDead
	}
	return b, api.OK
}

// replay does what the frames say, up to the first that is torn or wrong, and answers the bytes from there on. It stands inside of coding.Sound.
func (b *Book) replay(all []byte) (left []byte) {
	for {
		inside, behind, ok := frames.First(all)
		if !ok {
			return all
		}
		b.obey(coding.NewReader(inside))
		all = behind
	}
}

// obey does what a frame says, if that can be.
func (b *Book) obey(r *coding.Reader) {
	switch r.Number(1) {
	case letterWait:
		c := r.Change()
		r.End()
		b.wait(owned(c))
	case letterPlace:
		n := int(r.Number(4))
		r.End()
		coding.Need(n >= 1 && n <= len(b.waiting))
		b.place(n)
	case letterKnow:
		told := r.Record()
		r.End()
		b.learn(told)
	default:
		coding.Need(false)
	}
}

// learn makes known what a record tells, if it is so.
func (b *Book) learn(told api.Record) {
	more := told.Size - b.last().record.Size
	coding.Need(more >= 1 && more <= b.unknown())
	s := b.next(more)
	coding.Need(s.record == told)
	b.know(s)
}

package ledger

import "roots/api"

// What a disk answers to Append; any other number is taken for broken.
const (
	done   = 0
	noRoom = 1
	broken = 2
)

// guarded asks the disk that was handed in. One that panics, or is none at all, is told as broken, so that no call of the ledger panics.
type guarded struct {
	disk api.Disk
}

// bytes are all that are on the disk; not ok: it is broken.
func (g guarded) bytes() (all []byte, ok bool) {
	ok = quiet(func() { all = g.disk.Bytes() })
	return all, ok
}

// append puts bytes on the disk.
func (g guarded) append(b []byte) int {
	answer := broken
	quiet(func() { answer = g.disk.Append(b) })
	return answer
}

// sync lets what was appended stay; false: the disk is broken.
func (g guarded) sync() bool {
	stays := false
	quiet(func() { stays = g.disk.Sync() })
	return stays
}

// cut leaves the first n bytes; false: the disk is broken.
func (g guarded) cut(n int) bool {
	left := false
	quiet(func() { left = g.disk.Cut(n) })
	return left
}

// quiet tells whether a call came to its end without a panic.
func quiet(call func()) (ok bool) {
	defer func() {
		if recover() != nil {
			ok = false
		}
	}()
	call()
	return true
}

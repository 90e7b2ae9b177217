// Package frames: bytes in frames, one behind the other, each with its length and its sum (P12), by which a frame that is not whole is told.
package frames

import "roots/coding"

// mostInside is how many bytes there may be in a frame.
const mostInside = 200

// Around is the frame in which the bytes are, in new memory.
func Around(inside []byte) []byte {
	b := coding.AppendNumber(nil, 4, uint32(len(inside)))
	b = append(b, inside...)
	return coding.AppendNumber(b, 4, sum(inside))
}

// First is what is in the first frame of b, and what is behind that frame; not ok: it is torn or wrong.
func First(b []byte) (inside, behind []byte, ok bool) {
	r := coding.NewReader(b)
	ok = coding.Sound(func() {
		n := r.Number(4)
		coding.Need(n >= 1 && n <= mostInside)
		inside = r.Take(int(n))
		coding.Need(r.Number(4) == sum(inside))
	})
	if !ok {
		return nil, nil, false
	}
	return inside, r.Rest(), true
}

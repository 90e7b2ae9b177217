// Package digest: SHA-256 (P2). It is written out here because no package of the library that hashes may be used.
package digest

import (
	"math/bits"

	"roots/api"
)

// blockSize is how many bytes are mixed in at a time.
const blockSize = 64

// rounds has the constant of each round: the first 32 bits behind the point of the cube roots of the first 64 primes.
var rounds = [64]uint32{
	0x428a2f98, 0x71374491, 0xb5c0fbcf, 0xe9b5dba5, 0x3956c25b, 0x59f111f1, 0x923f82a4, 0xab1c5ed5,
	0xd807aa98, 0x12835b01, 0x243185be, 0x550c7dc3, 0x72be5d74, 0x80deb1fe, 0x9bdc06a7, 0xc19bf174,
	0xe49b69c1, 0xefbe4786, 0x0fc19dc6, 0x240ca1cc, 0x2de92c6f, 0x4a7484aa, 0x5cb0a9dc, 0x76f988da,
	0x983e5152, 0xa831c66d, 0xb00327c8, 0xbf597fc7, 0xc6e00bf3, 0xd5a79147, 0x06ca6351, 0x14292967,
	0x27b70a85, 0x2e1b2138, 0x4d2c6dfc, 0x53380d13, 0x650a7354, 0x766a0abb, 0x81c2c92e, 0x92722c85,
	0xa2bfe8a1, 0xa81a664b, 0xc24b8b70, 0xc76c51a3, 0xd192e819, 0xd6990624, 0xf40e3585, 0x106aa070,
	0x19a4c116, 0x1e376c08, 0x2748774c, 0x34b0bcb5, 0x391c0cb3, 0x4ed8aa4a, 0x5b9cca4f, 0x682e6ff3,
	0x748f82ee, 0x78a5636f, 0x84c87814, 0x8cc70208, 0x90befffa, 0xa4506ceb, 0xbef9a3f7, 0xc67178f2,
}

// Sum is the hash of bytes.
func Sum(b []byte) api.Sum {
	h := begin()
	h.write(b)
	return h.finish()
}

// Marked is the hash of a byte and of the pieces behind it. The pieces are taken as they lie, so that a long leaf need not be copied to stand behind its mark.
func Marked(mark byte, pieces ...[]byte) api.Sum {
	h := begin()
	h.write([]byte{mark})
	for _, p := range pieces {
		h.write(p)
	}
	return h.finish()
}

// hasher is a hash that is not yet finished.
type hasher struct {
	state [8]uint32
	block [blockSize]byte // its first size%blockSize bytes wait until it is full
	size  uint64          // how many bytes came in
}

// begin is the hasher that no byte came in to.
func begin() hasher {
	return hasher{state: [8]uint32{
		0x6a09e667, 0xbb67ae85, 0x3c6ef372, 0xa54ff53a, 0x510e527f, 0x9b05688c, 0x1f83d9ab, 0x5be0cd19,
	}}
}

// write takes bytes in.
func (h *hasher) write(b []byte) {
	for len(b) > 0 {
		n := copy(h.block[h.size%blockSize:], b)
		b = b[n:]
		h.size += uint64(n)
		if h.size%blockSize == 0 {
			h.mix()
		}
	}
}

// finish takes in the bit that ends the bytes, noughts, and the length in bits, which together fill the last block.
func (h *hasher) finish() api.Sum {
	length := h.size * 8
	var tail [blockSize + 8]byte
	tail[0] = 0x80
	// Below 0 the difference wraps round, which does no harm: blockSize divides 2 to the power of 64.
	at := 1 + (blockSize-9-h.size)%blockSize
	for i := range uint64(8) {
		tail[at+i] = byte(length >> (56 - 8*i))
	}
	h.write(tail[:at+8])
	return h.told()
}

// told is the state as bytes.
func (h *hasher) told() api.Sum {
	var s api.Sum
	for i, w := range h.state {
		s[4*i] = byte(w >> 24)
		s[4*i+1] = byte(w >> 16)
		s[4*i+2] = byte(w >> 8)
		s[4*i+3] = byte(w)
	}
	return s
}

// mix puts a full block into the state.
func (h *hasher) mix() {
	w := h.words()
	s := h.state
	a, b, c, d, e, f, g, k := s[0], s[1], s[2], s[3], s[4], s[5], s[6], s[7]
	for i := range 64 {
		turned := bits.RotateLeft32(e, -6) ^ bits.RotateLeft32(e, -11) ^ bits.RotateLeft32(e, -25)
		chosen := e&f ^ ^e&g
		one := k + turned + chosen + rounds[i] + w[i]
		turned = bits.RotateLeft32(a, -2) ^ bits.RotateLeft32(a, -13) ^ bits.RotateLeft32(a, -22)
		most := a&b ^ a&c ^ b&c
		two := turned + most
		a, b, c, d, e, f, g, k = one+two, a, b, c, d+one, e, f, g
	}
	for i, v := range [8]uint32{a, b, c, d, e, f, g, k} {
		h.state[i] += v
	}
}

// words spreads the block over one word for each round.
func (h *hasher) words() [64]uint32 {
	var w [64]uint32
	for i := range 16 {
		b := h.block[4*i : 4*i+4]
		w[i] = uint32(b[0])<<24 | uint32(b[1])<<16 | uint32(b[2])<<8 | uint32(b[3])
	}
	for i := 16; i < 64; i++ {
		x, y := w[i-15], w[i-2]
		x = bits.RotateLeft32(x, -7) ^ bits.RotateLeft32(x, -18) ^ x>>3
		y = bits.RotateLeft32(y, -17) ^ bits.RotateLeft32(y, -19) ^ y>>10
		w[i] = w[i-16] + x + w[i-7] + y
	}
	return w
}

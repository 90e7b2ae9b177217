package frames

import (
	"bytes"
	"encoding/hex"
	"hash/crc32"
	"math/rand"
	"testing"
)

// TestSum: the sum is CRC-32, the usual one.
func TestSum(t *testing.T) {
	if sum([]byte("123456789")) != 0xcbf43926 || sum(nil) != 0 {
		t.Errorf("the sum of known bytes: %x, %x", sum([]byte("123456789")), sum(nil))
	}
	r := rand.New(rand.NewSource(1))
	for n := range 300 {
		b := make([]byte, n)
		r.Read(b)
		if sum(b) != crc32.ChecksumIEEE(b) {
			t.Errorf("the sum of %d bytes", n)
		}
	}
}

// TestKnown: P12, the document's frame.
func TestKnown(t *testing.T) {
	if got := hex.EncodeToString(Around([]byte("Q\x01\x00\x01a"))); got != "000000055101000161"+"5843168c" {
		t.Errorf("P12: %s", got)
	}
}

// TestFirst: P12, a frame comes apart as it was put together, at every length that may be and at none other.
func TestFirst(t *testing.T) {
	for n := range 300 {
		b := bytes.Repeat([]byte{7}, n)
		inside, behind, ok := First(append(Around(b), "more"...))
		if want := n >= 1 && n <= 200; ok != want {
			t.Errorf("P12: a frame of %d bytes: %v", n, ok)
		} else if ok && (!bytes.Equal(inside, b) || string(behind) != "more") || !ok && (inside != nil || behind != nil) {
			t.Errorf("P12: a frame of %d bytes: %x, %x", n, inside, behind)
		}
	}
}

// TestPieces: what is in a frame cannot grow into what is behind it.
func TestPieces(t *testing.T) {
	all := append(Around([]byte("inside")), "more"...)
	old := bytes.Clone(all)
	inside, _, ok := First(all)
	if !ok || cap(inside) != len(inside) {
		t.Errorf("%v, room for %d more", ok, cap(inside)-len(inside))
	}
	_ = append(inside, "grown"...)
	if !bytes.Equal(all, old) {
		t.Errorf("it grew into what is behind: %q", all)
	}
}

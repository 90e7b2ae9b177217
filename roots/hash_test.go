package roots_test

import (
	"bytes"
	"crypto/sha256"
	"encoding/hex"
	"math/rand"
	"testing"

	"roots/roots"
)

// TestHashKnown: P2, texts whose hashes everybody knows.
func TestHashKnown(t *testing.T) {
	for s, want := range map[string]string{
		"":    "e3b0c44298fc1c149afbf4c8996fb92427ae41e4649b934ca495991b7852b855",
		"abc": "ba7816bf8f01cfea414140de5dae2223b00361a396177a9cb410ff61f20015ad",
		"abcdbcdecdefdefgefghfghighijhijkijkljklmklmnlmnomnopnopq":                                                         "248d6a61d20638b8e5c026930c3e6039a33ce45964ff2167f6ecedd419db06c1",
		"abcdefghbcdefghicdefghijdefghijkefghijklfghijklmghijklmnhijklmnoijklmnopjklmnopqklmnopqrlmnopqrsmnopqrstnopqrstu": "cf5b16a778af8380036ce59e7b0492370b249b11e8f07a51afac45037afee9d1",
		"The quick brown fox jumps over the lazy dog":                                                                      "d7a8fbb307d7809469ca9abcb0082e4f8d5651e46d3cdb762d02d0bf37c9e592",
		string(bytes.Repeat([]byte("a"), 1000000)):                                                                         "cdc76e5c9914fb9281a1c7e284d73e67f1809a48a497200e046d39ccc7112cd0",
	} {
		if got := roots.Hash([]byte(s)); hex.EncodeToString(got[:]) != want {
			t.Errorf("P2: Hash of %d bytes: %x, want %s", len(s), got, want)
		}
	}
	if roots.Hash(nil) != roots.Hash([]byte{}) {
		t.Errorf("P2: Hash of nil is not that of nothing")
	}
}

// TestHashLengths: P2 at every length around the ends of blocks, and at some great ones.
func TestHashLengths(t *testing.T) {
	r := rand.New(rand.NewSource(1))
	lengths := []int{1<<16 - 9, 1 << 16, 1<<20 + 55, 1<<20 + 56, 1<<22 + 63}
	for n := range 400 {
		lengths = append(lengths, n)
	}
	for _, n := range lengths {
		b := make([]byte, n)
		r.Read(b)
		kept := bytes.Clone(b)
		if got, want := roots.Hash(b), sha256.Sum256(b); got != want {
			t.Errorf("P2: Hash of %d bytes: %x, want %x", n, got, want)
		}
		if !bytes.Equal(b, kept) {
			t.Errorf("P1: Hash writes into its %d bytes", n)
		}
	}
}

package roots_test

import (
	"crypto/sha256"
	"encoding/hex"
	"errors"
	"math"
	"math/rand"
	"strings"
	"testing"

	"roots/api"
)

// The other way to the same answers: hashes of the library, trees level by level, and the checks of paths bit by bit, from the leaf upwards.

// edges are numbers at which a count or an index may go wrong.
var edges = []int{math.MinInt, math.MinInt + 1, -1 << 32, -9, -2, -1, 0, 1, 2, 3, 4, 5, 7, 8, 9, 31, 32, 33, 1<<31 - 1, 1 << 31, 1<<32 + 1, 1<<62 - 1, 1 << 62, 1<<62 + 1, math.MaxInt - 1, math.MaxInt}

func refLeaf(b []byte) api.Sum {
	return sha256.Sum256(append([]byte{0}, b...))
}

func refNode(l, r api.Sum) api.Sum {
	return sha256.Sum256(append(append([]byte{1}, l[:]...), r[:]...))
}

// refRoot joins neighbours, level by level; who has none goes up as it is.
func refRoot(leaves [][]byte) api.Sum {
	if len(leaves) == 0 {
		return sha256.Sum256(nil)
	}
	var level []api.Sum
	for _, b := range leaves {
		level = append(level, refLeaf(b))
	}
	for len(level) > 1 {
		var up []api.Sum
		for i := 0; i < len(level); i += 2 {
			if i+1 < len(level) {
				up = append(up, refNode(level[i], level[i+1]))
			} else {
				up = append(up, level[i])
			}
		}
		level = up
	}
	return level[0]
}

// refSplit is the greatest power of two below n.
func refSplit(n int) int {
	k := 1
	for k <= (n-1)/2 {
		k *= 2
	}
	return k
}

// refPath is P4, word by word.
func refPath(leaves [][]byte, i int) []api.Sum {
	n := len(leaves)
	if n == 1 {
		return nil
	}
	k := refSplit(n)
	if i < k {
		return append(refPath(leaves[:k], i), refRoot(leaves[k:]))
	}
	return append(refPath(leaves[k:], i-k), refRoot(leaves[:k]))
}

// refFrom is P5, word by word, for m above 0.
func refFrom(leaves [][]byte, m int, known bool) []api.Sum {
	n := len(leaves)
	if m == n && known {
		return nil
	}
	if m == n {
		return []api.Sum{refRoot(leaves)}
	}
	k := refSplit(n)
	if m <= k {
		return append(refFrom(leaves[:k], m, known), refRoot(leaves[k:]))
	}
	return append(refFrom(leaves[k:], m-k, false), refRoot(leaves[:k]))
}

// refClimb goes from leaf i of n up to the root, by the bits of i and n - 1.
func refClimb(leaf api.Sum, i, n int, path []api.Sum) (top api.Sum, ok bool) {
	if i < 0 || i >= n {
		return top, false
	}
	at, last := uint64(i), uint64(n-1)
	top = leaf
	for _, p := range path {
		if last == 0 {
			return api.Sum{}, false
		}
		if at%2 == 1 || at == last {
			top = refNode(p, top)
			for at%2 == 0 && at != 0 {
				at, last = at/2, last/2
			}
		} else {
			top = refNode(top, p)
		}
		at, last = at/2, last/2
	}
	return top, last == 0
}

// refExtend goes from the first m leaves (0 < m < n) to the first n, by the bits of m - 1 and n - 1: the roots to which that leads.
func refExtend(m, n int, path []api.Sum, a api.Sum) (first, all api.Sum, ok bool) {
	if len(path) == 0 {
		return first, all, false
	}
	if m&(m-1) == 0 {
		path = append([]api.Sum{a}, path...)
	}
	at, last := uint64(m-1), uint64(n-1)
	for at%2 == 1 {
		at, last = at/2, last/2
	}
	first, all = path[0], path[0]
	for _, p := range path[1:] {
		if last == 0 {
			return first, all, false
		}
		if at%2 == 1 || at == last {
			first, all = refNode(p, first), refNode(p, all)
			for at%2 == 0 && at != 0 {
				at, last = at/2, last/2
			}
		} else {
			all = refNode(all, p)
		}
		at, last = at/2, last/2
	}
	return first, all, last == 0
}

// document is the list of eight leaves that the document's examples are of.
func document(t testing.TB) [][]byte {
	var l [][]byte
	for _, s := range []string{"", "00", "10", "2021", "3031", "40414243", "5051525354555657", "606162636465666768696a6b6c6d6e6f"} {
		b, err := hex.DecodeString(s)
		if err != nil {
			t.Fatal(err)
		}
		l = append(l, b)
	}
	return l
}

// someLeaves makes n leaves of many lengths.
func someLeaves(n int) [][]byte {
	r := rand.New(rand.NewSource(int64(n)))
	l := make([][]byte, n)
	for i := range l {
		l[i] = make([]byte, r.Intn(150))
		r.Read(l[i])
	}
	return l
}

// someSums makes n hashes.
func someSums(r *rand.Rand, n int) []api.Sum {
	var l []api.Sum
	for range n {
		var s api.Sum
		r.Read(s[:])
		l = append(l, s)
	}
	return l
}

// shorts has the first four bytes of each hash.
func shorts(l ...api.Sum) string {
	var out []string
	for _, s := range l {
		out = append(out, hex.EncodeToString(s[:4]))
	}
	return strings.Join(out, " ")
}

// isFailed tells whether an error is that one, of that call, and none of the others.
func isFailed(err error, call string, want api.Errno) bool {
	var f *api.Failed
	if !errors.As(err, &f) || f.Call != call || api.Tell(err) != want {
		return false
	}
	for e := api.OK; e <= api.ErrBundle; e++ {
		if errors.Is(err, e) != (e == want) {
			return false
		}
	}
	return true
}

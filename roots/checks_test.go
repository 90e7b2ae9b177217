package roots_test

import (
	"math"
	"math/rand"
	"slices"
	"testing"

	"roots/api"
	"roots/roots"
)

// otherLengths has paths that are longer and shorter than p by one and more hashes.
func otherLengths(p []api.Sum, more api.Sum) [][]api.Sum {
	out := [][]api.Sum{append(slices.Clone(p), more), append([]api.Sum{more}, p...), append(slices.Clone(p), make([]api.Sum, 70)...)}
	if len(p) > 0 {
		out = append(out, p[1:], p[:len(p)-1])
	}
	if len(p) > 1 {
		out = append(out, nil)
	}
	return out
}

// eachTurned calls f with p, each time with another bit of one hash turned.
func eachTurned(p []api.Sum, f func(q []api.Sum)) {
	for k := range p {
		for _, at := range []int{0, 15, 31} {
			q := slices.Clone(p)
			q[k][at] ^= 1 << (k % 8)
			f(q)
		}
	}
}

// TestIncluded: P6, every leaf of every list is included by its path, and by nothing that is near it.
func TestIncluded(t *testing.T) {
	l := someLeaves(34)
	for n := 1; n <= len(l); n++ {
		top := refRoot(l[:n])
		for i := range n {
			p := refPath(l[:n], i)
			if !roots.Included(l[i], i, n, p, top) {
				t.Errorf("P6: leaf %d of %d is not included", i, n)
			}
			for _, q := range otherLengths(p, top) {
				if roots.Included(l[i], i, n, q, top) {
					t.Errorf("P6: leaf %d of %d is included by %d hashes for %d", i, n, len(q), len(p))
				}
			}
			eachTurned(p, func(q []api.Sum) {
				if roots.Included(l[i], i, n, q, top) {
					t.Errorf("P6: leaf %d of %d is included with a bit turned", i, n)
				}
			})
			for _, j := range edges {
				if j != i && roots.Included(l[i], j, n, p, top) {
					t.Errorf("P6: leaf %d of %d is included as leaf %d", i, n, j)
				}
			}
			top[9] ^= 4
			if roots.Included(l[i], i, n, p, top) {
				t.Errorf("P6: leaf %d of %d is included in another root", i, n)
			}
			top[9] ^= 4
			if roots.Included(append([]byte{0}, l[i]...), i, n, p, top) {
				t.Errorf("P6: another leaf than %d of %d is included", i, n)
			}
		}
	}
}

// TestIncludedEdges: P6, one leaf, no leaves, numbers that may not be, and a node taken for a leaf.
func TestIncludedEdges(t *testing.T) {
	leaf := []byte("leaf")
	one := refLeaf(leaf)
	if !roots.Included(leaf, 0, 1, nil, one) || !roots.Included(leaf, 0, 1, []api.Sum{}, one) {
		t.Errorf("P6: the one leaf is not included")
	}
	if !roots.Included(nil, 0, 1, nil, refLeaf(nil)) {
		t.Errorf("P6: a leaf of no bytes is not included")
	}
	for _, i := range edges {
		for _, n := range edges {
			if (i != 0 || n != 1) && roots.Included(leaf, i, n, nil, one) {
				t.Errorf("P6: without a path leaf %d of %d is included", i, n)
			}
		}
	}
	if roots.Included(nil, 0, 0, nil, roots.Hash(nil)) {
		t.Errorf("P6: a leaf of no leaves is included")
	}
	l := document(t)
	top := refRoot(l)
	p := refPath(l, 0)
	a, b := refLeaf(l[0]), refLeaf(l[1])
	if roots.Included(append(a[:], b[:]...), 0, 4, p[1:], top) {
		t.Errorf("P6: a node is included as a leaf")
	}
}

// greatPairs are pairs of numbers, small and very great.
func greatPairs(r *rand.Rand) [][2]int {
	out := [][2]int{{0, math.MaxInt}, {1, math.MaxInt}, {math.MaxInt - 1, math.MaxInt}, {1 << 62, math.MaxInt}, {1<<62 - 1, math.MaxInt}, {1<<62 - 1, 1 << 62}, {1 << 61, 1 << 62}, {1<<62 - 1, 1<<62 + 1}, {1 << 62, 1<<62 + 1}}
	for range 200 {
		n := 2 + int(r.Uint64()>>(2+r.Intn(61)))
		out = append(out, [2]int{r.Intn(n), n})
	}
	return out
}

// TestIncludedGreat: P6 for lists greater than any: the root is made of the path, by the other way.
func TestIncludedGreat(t *testing.T) {
	r := rand.New(rand.NewSource(6))
	leaf := []byte("leaf")
	for _, c := range greatPairs(r) {
		fits := 0
		for length := range 66 {
			p := someSums(r, length)
			top, ok := refClimb(refLeaf(leaf), c[0], c[1], p)
			if roots.Included(leaf, c[0], c[1], p, top) != ok {
				t.Errorf("P6: leaf %d of %d by %d hashes: not %v", c[0], c[1], length, ok)
			}
			if ok {
				fits++
				top[0] ^= 1
				if roots.Included(leaf, c[0], c[1], p, top) {
					t.Errorf("P6: leaf %d of %d is included in another root", c[0], c[1])
				}
			}
		}
		if fits != 1 {
			t.Errorf("P6: leaf %d of %d has paths of %d lengths", c[0], c[1], fits)
		}
	}
}

// TestExtended: P7, all pairs of sizes lead to each other, and nothing that is near does.
func TestExtended(t *testing.T) {
	l := someLeaves(34)
	for n := 2; n <= len(l); n++ {
		b := refRoot(l[:n])
		for m := 1; m < n; m++ {
			a, p := refRoot(l[:m]), refFrom(l[:n], m, true)
			if !roots.Extended(m, n, p, a, b) {
				t.Errorf("P7: from %d to %d: no", m, n)
			}
			for _, q := range append(otherLengths(p, a), otherLengths(p, b)...) {
				if roots.Extended(m, n, q, a, b) {
					t.Errorf("P7: from %d to %d by %d hashes for %d", m, n, len(q), len(p))
				}
			}
			eachTurned(p, func(q []api.Sum) {
				if roots.Extended(m, n, q, a, b) {
					t.Errorf("P7: from %d to %d with a bit turned", m, n)
				}
			})
			other := api.Sum{5}
			if roots.Extended(m, n, p, other, b) || roots.Extended(m, n, p, a, other) || roots.Extended(m, n, p, b, a) {
				t.Errorf("P7: from %d to %d with other roots", m, n)
			}
		}
	}
}

// TestExtendedEdges: P7, m is 0, m is n, numbers that may not be.
func TestExtendedEdges(t *testing.T) {
	none, a, b := roots.Hash(nil), api.Sum{1}, api.Sum{2}
	for _, n := range edges {
		if n < 0 {
			continue
		}
		if !roots.Extended(n, n, nil, a, a) || !roots.Extended(n, n, []api.Sum{}, a, a) {
			t.Errorf("P7: from %d to %d: no", n, n)
		}
		if roots.Extended(n, n, nil, a, b) || roots.Extended(n, n, []api.Sum{a}, a, a) {
			t.Errorf("P7: from %d to %d: other roots, or a path", n, n)
		}
		if n == 0 {
			continue
		}
		if !roots.Extended(0, n, nil, none, b) || !roots.Extended(0, n, []api.Sum{}, none, api.Sum{}) {
			t.Errorf("P7: from 0 to %d: no", n)
		}
		if roots.Extended(0, n, nil, a, b) || roots.Extended(0, n, nil, a, a) || roots.Extended(0, n, []api.Sum{b}, none, b) {
			t.Errorf("P7: from 0 to %d: another root than that of nothing, or a path", n)
		}
	}
	for _, m := range edges {
		for _, n := range edges {
			for _, p := range [][]api.Sum{nil, {a}, make([]api.Sum, 64)} {
				if (m < 0 || m > n) && (roots.Extended(m, n, p, a, a) || roots.Extended(m, n, p, none, none)) {
					t.Errorf("P7: from %d to %d", m, n)
				}
			}
		}
	}
}

// TestExtendedGreat: P7 for lists greater than any: the roots are made of the path, by the other way.
func TestExtendedGreat(t *testing.T) {
	r := rand.New(rand.NewSource(7))
	for _, c := range greatPairs(r) {
		m, n := c[0], c[1]
		if m == 0 {
			continue
		}
		fits := 0
		for length := range 66 {
			p := someSums(r, length)
			a, b, ok := refExtend(m, n, p, api.Sum{8})
			if roots.Extended(m, n, p, a, b) != ok {
				t.Errorf("P7: from %d to %d by %d hashes: not %v", m, n, length, ok)
			}
			if ok {
				fits++
				b[31] ^= 1
				if roots.Extended(m, n, p, a, b) {
					t.Errorf("P7: from %d to %d, another root", m, n)
				}
			}
		}
		if fits != 1 {
			t.Errorf("P7: from %d to %d there are %d lengths", m, n, fits)
		}
	}
}

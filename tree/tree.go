// Package tree: hash trees over lists (P3 to P7). Lists come as the hashes of their leaves, so that whoever keeps these need not hash the leaves again.
package tree

import (
	"math/bits"

	"roots/api"
	"roots/digest"
)

// node is the root of two parts that lie side by side.
func node(l, r api.Sum) api.Sum {
	return digest.Marked(1, l[:], r[:])
}

// split is the greatest power of two below n, for n of 2 and more.
func split(n int) int {
	return 1 << (bits.Len(uint(n-1)) - 1)
}

// Root is the root of a list (P3).
func Root(sums []api.Sum) api.Sum {
	switch len(sums) {
	case 0:
		return digest.Sum(nil)
	case 1:
		return sums[0]
	}
	k := split(len(sums))
	return node(Root(sums[:k]), Root(sums[k:]))
}

// Path leads from leaf i to the root (P4); 0 <= i < len(sums).
func Path(sums []api.Sum, i int) []api.Sum {
	if len(sums) == 1 {
		return nil
	}
	k := split(len(sums))
	if i < k {
		return append(Path(sums[:k], i), Root(sums[k:]))
	}
	return append(Path(sums[k:], i-k), Root(sums[:k]))
}

// Between leads from the first m leaves to all (P5); 0 <= m <= len(sums).
func Between(sums []api.Sum, m int) []api.Sum {
	if m == 0 {
		return nil
	}
	return between(sums, m, true)
}

// between leads from the first m leaves of a part to all of it; known: whoever goes there has the root of these m.
func between(sums []api.Sum, m int, known bool) []api.Sum {
	if m == len(sums) {
		if known {
			return nil
		}
		return []api.Sum{Root(sums)}
	}
	k := split(len(sums))
	if m <= k {
		return append(between(sums[:k], m, known), Root(sums[k:]))
	}
	return append(between(sums[k:], m-k, false), Root(sums[:k]))
}

package tree

import (
	"sync"

	"roots/api"
	"roots/digest"
)

// workers is how many parts of a list are hashed side by side at the most.
const workers = 8

// Leaves has the hash of each leaf. Every worker has a part of the leaves and of the hashes of its own, so the answer is one under every schedule.
func Leaves(leaves [][]byte) []api.Sum {
	n := len(leaves)
	sums := make([]api.Sum, n)
	size := (n + workers - 1) / workers
	var group sync.WaitGroup
	for from := 0; from < n; from += size {
		to := min(from+size, n)
		group.Add(1)
		go func() {
			defer group.Done()
			hashInto(sums[from:to:to], leaves[from:to:to])
		}()
	}
	group.Wait()
	return sums
}

// hashInto puts the hash of each leaf of a part to its place.
func hashInto(sums []api.Sum, leaves [][]byte) {
	for i, leaf := range leaves {
		sums[i] = Leaf(leaf)
	}
}

// Leaf is the root of a list of one leaf. Its mark keeps a leaf from being taken for two roots.
func Leaf(leaf []byte) api.Sum {
	return digest.Marked(0, leaf)
}

package roots

import (
	"roots/api"
	"roots/digest"
	"roots/tree"
)

// Hash is the hash of bytes (P2).
func Hash(b []byte) api.Sum {
	return digest.Sum(b)
}

// Root is the root of a list (P3).
func Root(leaves [][]byte) api.Sum {
	return tree.Root(tree.Leaves(leaves))
}

// Path leads from leaf i of the first n to their root (P4).
func Path(leaves [][]byte, i, n int) ([]api.Sum, error) {
	if i < 0 || i >= n || n > len(leaves) {
		return nil, failed("Path", api.ErrRange)
	}
	return tree.Path(tree.Leaves(leaves[:n]), i), nil
}

// Between leads from the first m leaves to the first n (P5).
func Between(leaves [][]byte, m, n int) ([]api.Sum, error) {
	if m < 0 || m > n || n > len(leaves) {
		return nil, failed("Between", api.ErrRange)
	}
	return tree.Between(tree.Leaves(leaves[:n]), m), nil
}

// Included tells whether a path leads from a leaf to the root (P6).
func Included(leaf []byte, i, n int, path []api.Sum, root api.Sum) bool {
	return tree.Included(tree.Leaf(leaf), i, n, path, root)
}

// Extended tells whether hashes lead from one root to the other (P7).
func Extended(m, n int, path []api.Sum, a, b api.Sum) bool {
	return tree.Extended(m, n, path, a, b)
}

package tree

import (
	"roots/api"
	"roots/digest"
)

// Included tells whether a path leads from the hash of leaf i of n to the root (P6).
func Included(leaf api.Sum, i, n int, path []api.Sum, root api.Sum) bool {
	if i < 0 || i >= n {
		return false
	}
	top, ok := climb(leaf, i, n, path)
	return ok && top == root
}

// climb is where a path leads from leaf i of n; not ok: the path has another length than that of leaf i. It goes as deep as n has bits, not as deep as the path is long.
func climb(leaf api.Sum, i, n int, path []api.Sum) (top api.Sum, ok bool) {
	if n == 1 {
		return leaf, len(path) == 0
	}
	rest, other, ok := takeLast(path)
	if !ok {
		return api.Sum{}, false
	}
	k := split(n)
	if i < k {
		l, ok := climb(leaf, i, k, rest)
		return node(l, other), ok
	}
	r, ok := climb(leaf, i-k, n-k, rest)
	return node(other, r), ok
}

// takeLast parts a path from its last hash, the one nearest to the root; not ok: there is none.
func takeLast(path []api.Sum) (rest []api.Sum, last api.Sum, ok bool) {
	end := len(path) - 1
	if end < 0 {
		return nil, api.Sum{}, false
	}
	return path[:end:end], path[end], true
}

// Extended tells whether hashes lead from root a of the first m leaves to root b of the first n (P7).
func Extended(m, n int, path []api.Sum, a, b api.Sum) bool {
	switch {
	case m < 0 || m > n:
		return false
	case m == n:
		return len(path) == 0 && a == b
	case m == 0:
		return len(path) == 0 && a == digest.Sum(nil)
	}
	tops, ok := extend(m, n, path, a, true)
	return ok && tops == pair{a, b}
}

// pair has the root of the first leaves of a part, and that of all of it.
type pair struct {
	first, all api.Sum
}

// extend is where hashes lead in a part of n leaves from its first m; known: a is the root of these m. Not ok: there are more hashes or fewer than P5 has.
func extend(m, n int, path []api.Sum, a api.Sum, known bool) (tops pair, ok bool) {
	if m == n && known {
		return pair{a, a}, len(path) == 0
	}
	rest, last, ok := takeLast(path)
	if !ok {
		return pair{}, false
	}
	if m == n {
		return pair{last, last}, len(rest) == 0
	}
	k := split(n)
	if m <= k {
		in, ok := extend(m, k, rest, a, known)
		return pair{in.first, node(in.all, last)}, ok
	}
	in, ok := extend(m-k, n-k, rest, a, false)
	return pair{node(last, in.first), node(last, in.all)}, ok
}

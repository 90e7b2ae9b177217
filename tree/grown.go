package tree

import (
	"roots/api"
	"roots/digest"
)

// Grown is a list of which no more is kept than its root hangs on: the roots of its full parts, whose sizes are powers of two. It is never changed: the lists that come of it share its parts, so that one that comes to nothing does no harm. The zero Grown is the list of no leaves.
type Grown struct {
	last *peak
}

// peak is a full part of a list, behind greater ones.
type peak struct {
	root  api.Sum
	size  int
	ahead *peak
}

// With is the list that has more leaves, which come as their hashes.
func (g Grown) With(sums ...api.Sum) Grown {
	for _, s := range sums {
		g.last = grow(&peak{s, 1, g.last})
	}
	return g
}

// grow joins parts of one size, from the last on, until there are none.
func grow(p *peak) *peak {
	for p.ahead != nil && p.ahead.size == p.size {
		p = &peak{node(p.ahead.root, p.root), 2 * p.size, p.ahead.ahead}
	}
	return p
}

// Root is the root of the list (P3).
func (g Grown) Root() api.Sum {
	if g.last == nil {
		return digest.Sum(nil)
	}
	root := g.last.root
	for p := g.last.ahead; p != nil; p = p.ahead {
		root = node(p.root, root)
	}
	return root
}

package tree

import (
	"testing"

	"roots/api"
	"roots/digest"
)

// TestGrown: P3, a list that grows has the root of the whole list at every size, by whatever steps it grew.
func TestGrown(t *testing.T) {
	var sums []api.Sum
	for i := range 140 {
		sums = append(sums, digest.Sum([]byte{byte(i)}))
	}
	for _, step := range []int{1, 2, 3, 7, 64, 140} {
		var g Grown
		all := []Grown{g}
		for from := 0; from < len(sums); from += step {
			g = g.With(sums[from:min(from+step, len(sums))]...)
			all = append(all, g)
		}
		for k, g := range all { // when all are there: none changes by those that come of it
			n := min(k*step, len(sums))
			if g.Root() != Root(sums[:n]) {
				t.Errorf("P3: the list of %d leaves, grown by %d: another root", n, step)
			}
			if g.With() != g {
				t.Errorf("the list of %d leaves with none more is another one", n)
			}
		}
	}
}

// TestGrownTwice: one list may grow in two ways.
func TestGrownTwice(t *testing.T) {
	a, b, c := api.Sum{1}, api.Sum{2}, api.Sum{3}
	g := Grown{}.With(a)
	if one, two := g.With(b), g.With(c, b); one.Root() != Root([]api.Sum{a, b}) || two.Root() != Root([]api.Sum{a, c, b}) || g.Root() != a {
		t.Errorf("a list changes with those that come of it")
	}
}

// TestGrownKept: no more is kept than one part for each bit of the size.
func TestGrownKept(t *testing.T) {
	g := Grown{}.With(make([]api.Sum, 1000)...)
	size, parts := 0, 0
	for p := g.last; p != nil; p = p.ahead {
		size += p.size
		parts++
	}
	if size != 1000 || parts != 6 {
		t.Errorf("of 1000 leaves %d are kept in %d parts", size, parts)
	}
}

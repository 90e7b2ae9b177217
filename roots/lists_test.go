package roots_test

import (
	"runtime"
	"slices"
	"strings"
	"testing"

	"roots/api"
	"roots/plain"
	"roots/roots"
)

// TestRootKnown: P3, the document's examples.
func TestRootKnown(t *testing.T) {
	l := document(t)
	for n, want := range strings.Fields("e3b0c442 6e340b9c fac54203 aeb6bcfe d37ee418 4e3bbb1f 76e67dad ddb89be4 5dc9da79") {
		if got := shorts(roots.Root(l[:n])); got != want {
			t.Errorf("P3: the root of %d leaves: %s, want %s", n, got, want)
		}
	}
	if roots.Root(nil) != roots.Hash(nil) || roots.Root([][]byte{}) != roots.Hash(nil) {
		t.Errorf("P3: the root of no leaves")
	}
	if roots.Root([][]byte{nil}) != roots.Hash([]byte{0}) {
		t.Errorf("P3: the root of one leaf of no bytes")
	}
}

// TestRootSizes: P3 of lists of all small sizes and some great ones, so that every way to cut a list into parts occurs.
func TestRootSizes(t *testing.T) {
	sizes := []int{255, 256, 257, 511, 512, 513, 1000, 1023, 1025, 4096, 5003}
	for n := range 140 {
		sizes = append(sizes, n)
	}
	for _, n := range sizes {
		l := someLeaves(n)
		if got, want := roots.Root(l), refRoot(l); got != want {
			t.Errorf("P3: the root of %d leaves: %s, want %s", n, shorts(got), shorts(want))
		}
	}
}

// TestRootMarks: P3, a leaf made of two roots has not the root of the two, nor has one with a mark in it.
func TestRootMarks(t *testing.T) {
	a, b := []byte("a"), []byte("b")
	l, r := roots.Root([][]byte{a}), roots.Root([][]byte{b})
	both := append(l[:], r[:]...)
	top := roots.Root([][]byte{a, b})
	for _, leaf := range [][]byte{both, append([]byte{1}, both...), append([]byte{0}, both...)} {
		if roots.Root([][]byte{leaf}) == top {
			t.Errorf("P3: the leaf %x has the root of two leaves", leaf)
		}
	}
	if roots.Root([][]byte{b, a}) == top {
		t.Errorf("P3: the order of the leaves says nothing")
	}
}

// TestSchedules: P3, P4, P5: one answer, however the workers run, and whoever else asks.
func TestSchedules(t *testing.T) {
	l := someLeaves(301)
	top, path, from := refRoot(l), refPath(l, 77), refFrom(l, 77, true)
	old := runtime.GOMAXPROCS(0)
	defer runtime.GOMAXPROCS(old)
	for _, procs := range []int{1, 2, 3, old} {
		runtime.GOMAXPROCS(procs)
		done := make(chan bool)
		for range 20 {
			go func() {
				p, err := roots.Path(l, 77, 301)
				f, err2 := roots.Between(l, 77, 301)
				done <- err == nil && err2 == nil && roots.Root(l) == top && slices.Equal(p, path) && slices.Equal(f, from)
			}()
		}
		for range 20 {
			if !<-done {
				t.Errorf("with %d at a time the answer is another", procs)
			}
		}
	}
}

// TestPathKnown: P4, the document's examples.
func TestPathKnown(t *testing.T) {
	l := document(t)
	for _, c := range []struct {
		i, n int
		want string
	}{
		{0, 8, "96a296d2 5f083f0a 6b47aaf2"},
		{5, 8, "bc1a0643 ca854ea1 d37ee418"},
		{2, 3, "fac54203"},
		{0, 1, ""},
	} {
		if p, err := roots.Path(l, c.i, c.n); err != nil || shorts(p...) != c.want {
			t.Errorf("P4: Path %d of %d: %s, %v, want %s", c.i, c.n, shorts(p...), err, c.want)
		}
	}
}

// TestPathAll: P4 for every leaf of the first n of a longer list.
func TestPathAll(t *testing.T) {
	l := someLeaves(40)
	for n := 1; n <= len(l); n++ {
		for i := range n {
			p, err := roots.Path(l, i, n)
			if want := refPath(l[:n], i); err != nil || !slices.Equal(p, want) {
				t.Errorf("P4: Path %d of %d: %s, %v, want %s", i, n, shorts(p...), err, shorts(want...))
			}
		}
	}
	l = someLeaves(2000)
	for _, i := range []int{0, 1, 1023, 1024, 1998, 1999} {
		p, err := roots.Path(l, i, 2000)
		if want := refPath(l, i); err != nil || !slices.Equal(p, want) {
			t.Errorf("P4: Path %d of 2000: %s, %v", i, shorts(p...), err)
		}
	}
}

// TestPathRange: P4, all edges for both numbers, and lists of several lengths: an error just where the document has one.
func TestPathRange(t *testing.T) {
	for _, count := range []int{0, 1, 2, 8, 32} {
		l := someLeaves(count)
		for _, i := range edges {
			for _, n := range edges {
				p, err := roots.Path(l, i, n)
				inside := 0 <= i && i < n && n <= count
				if inside && err != nil || !inside && (p != nil || !isFailed(err, "Path", api.ErrRange)) {
					t.Errorf("P4: Path %d of %d, of %d leaves: %s, %v", i, n, count, shorts(p...), err)
				}
				if q, e := plain.Path(l, i, n); !slices.Equal(p, q) || e != api.Tell(err) {
					t.Errorf("P4: plain.Path %d of %d, of %d leaves: %s, %d", i, n, count, shorts(q...), e)
				}
			}
		}
	}
}

// TestBetweenKnown: P5, the document's examples, and the edges.
func TestBetweenKnown(t *testing.T) {
	l := document(t)
	for _, c := range []struct {
		m, n int
		want string
	}{
		{1, 8, "96a296d2 5f083f0a 6b47aaf2"},
		{6, 8, "0ebc5d34 ca854ea1 d37ee418"},
		{2, 5, "5f083f0a bc1a0643"},
		{0, 0, ""}, {0, 1, ""}, {0, 8, ""},
		{1, 1, ""}, {3, 3, ""}, {8, 8, ""},
		{4, 8, "6b47aaf2"},
	} {
		if p, err := roots.Between(l, c.m, c.n); err != nil || shorts(p...) != c.want {
			t.Errorf("P5: Between %d and %d: %s, %v, want %s", c.m, c.n, shorts(p...), err, c.want)
		}
	}
	if p, err := roots.Between(nil, 0, 0); err != nil || len(p) != 0 {
		t.Errorf("P5: Between of no leaves: %s, %v", shorts(p...), err)
	}
}

// TestBetweenAll: P5 for all pairs of sizes within a longer list.
func TestBetweenAll(t *testing.T) {
	l := someLeaves(40)
	for n := range len(l) + 1 {
		for m := range n + 1 {
			var want []api.Sum
			if m > 0 {
				want = refFrom(l[:n], m, true)
			}
			if p, err := roots.Between(l, m, n); err != nil || !slices.Equal(p, want) {
				t.Errorf("P5: Between %d and %d: %s, %v, want %s", m, n, shorts(p...), err, shorts(want...))
			}
		}
	}
	l = someLeaves(2000)
	for _, m := range []int{1, 2, 1023, 1024, 1025, 1536, 1999} {
		p, err := roots.Between(l, m, 2000)
		if want := refFrom(l, m, true); err != nil || !slices.Equal(p, want) {
			t.Errorf("P5: Between %d and 2000: %s, %v", m, shorts(p...), err)
		}
	}
}

// TestBetweenRange: P5, all edges for both numbers, and lists of several lengths: an error just where the document has one.
func TestBetweenRange(t *testing.T) {
	for _, count := range []int{0, 1, 2, 8, 32} {
		l := someLeaves(count)
		for _, m := range edges {
			for _, n := range edges {
				p, err := roots.Between(l, m, n)
				inside := 0 <= m && m <= n && n <= count
				if inside && err != nil || !inside && (p != nil || !isFailed(err, "Between", api.ErrRange)) {
					t.Errorf("P5: Between %d and %d, of %d leaves: %s, %v", m, n, count, shorts(p...), err)
				}
				if q, e := plain.Between(l, m, n); !slices.Equal(p, q) || e != api.Tell(err) {
					t.Errorf("P5: plain.Between %d and %d, of %d leaves: %s, %d", m, n, count, shorts(q...), e)
				}
			}
		}
	}
}

package roots_test

import (
	"bytes"
	"math/rand"
	"slices"
	"testing"

	"roots/api"
	"roots/roots"
)

// lent is a list whose leaves lie side by side in one memory, each with spare room (the next leaf) behind it, and the list with spare room too.
type lent struct {
	memory []byte
	all    [][]byte
}

func lend(count int) lent {
	const size = 7
	memory := make([]byte, size*(count+2))
	rand.New(rand.NewSource(3)).Read(memory)
	var all [][]byte
	for i := range count + 2 {
		all = append(all, memory[size*i:size*i+size])
	}
	return lent{memory, all}
}

// kept is a copy of a lent list that shares nothing with it.
func (x lent) kept() lent {
	var all [][]byte
	for _, b := range x.all {
		all = append(all, bytes.Clone(b))
	}
	return lent{bytes.Clone(x.memory), all}
}

func (x lent) same(y lent) bool {
	return bytes.Equal(x.memory, y.memory) && slices.EqualFunc(x.all, y.all, bytes.Equal)
}

// TestNotWritten: P1, lists, leaves and paths are as they were when a call has answered, and so is the room behind them.
func TestNotWritten(t *testing.T) {
	const count = 21
	x := lend(count)
	l, old := x.all[:count], x.kept()
	top := roots.Root(l)
	p, _ := roots.Path(l, 4, 17)
	q, _ := roots.Between(l, 6, 17)
	room := append(slices.Clone(p), api.Sum{1}, api.Sum{2})
	more := append(slices.Clone(q), api.Sum{1}, api.Sum{2})
	oldRoom, oldMore := slices.Clone(room), slices.Clone(more)
	roots.Included(l[4], 4, 17, room[:len(p)], top)
	roots.Included(l[4], 4, 17, room[:len(p)-1], top)
	roots.Extended(6, 17, more[:len(q)], top, top)
	roots.Extended(8, 17, more[:len(q)-1], top, top)
	roots.Hash(l[3])
	if !x.same(old) {
		t.Errorf("P1: the leaves are not as they were")
	}
	if !slices.Equal(room, oldRoom) || !slices.Equal(more, oldMore) {
		t.Errorf("P1: a path is not as it was")
	}
}

// TestNotKept: P1, an answer stays, whatever the owner of the list writes into it, and the next one is of what the list has then.
func TestNotKept(t *testing.T) {
	const count = 21
	x := lend(count)
	l := x.all[:count]
	p, _ := roots.Path(l, 4, 17)
	q, _ := roots.Between(l, 6, 17)
	oldP, oldQ, oldTop := slices.Clone(p), slices.Clone(q), roots.Root(l)
	for i := range x.memory {
		x.memory[i] ^= 255
	}
	if !slices.Equal(p, oldP) || !slices.Equal(q, oldQ) {
		t.Errorf("P1: an answer changes with the list")
	}
	if roots.Root(l) != refRoot(l) || roots.Root(l) == oldTop {
		t.Errorf("P1: the root is that of the list as it was")
	}
	again, _ := roots.Path(l, 4, 17)
	from, _ := roots.Between(l, 6, 17)
	if !slices.Equal(again, refPath(l[:17], 4)) || !slices.Equal(from, refFrom(l[:17], 6, true)) {
		t.Errorf("P1: the answers are those of the list as it was")
	}
}

// TestNewMemory: P1, whoever gets a list may write into all of it, spare room too: no other answer changes.
func TestNewMemory(t *testing.T) {
	l := someLeaves(33)
	asks := []func(int) ([]api.Sum, error){
		func(k int) ([]api.Sum, error) { return roots.Path(l, k, 33) },
		func(k int) ([]api.Sum, error) { return roots.Between(l, k, 33) },
	}
	for _, ask := range asks {
		for k := range 33 {
			first, _ := ask(k)
			second, _ := ask(k)
			old, oldRoom := slices.Clone(second), slices.Clone(second[:cap(second)])
			first = first[:cap(first)]
			for i := range first {
				first[i] = api.Sum{9, 9, 9}
			}
			third, _ := ask(k)
			if !slices.Equal(second, old) || !slices.Equal(second[:cap(second)], oldRoom) || !slices.Equal(third, old) {
				t.Errorf("P1: for %d two answers share memory", k)
			}
		}
	}
}

// TestCallsEnd: P1, no call panics or goes on for ever, at all edges together and with paths of all lengths.
func TestCallsEnd(t *testing.T) {
	r := rand.New(rand.NewSource(4))
	paths := [][]api.Sum{nil, {}, someSums(r, 1), someSums(r, 2), someSums(r, 62), someSums(r, 63), someSums(r, 64), make([]api.Sum, 1<<16)}
	lists := [][][]byte{nil, {}, {nil}, {nil, {}}, make([][]byte, 9), make([][]byte, 1<<15)}
	for _, l := range lists {
		roots.Root(l)
		if len(l) > 0 {
			roots.Hash(l[0])
		}
	}
	for _, a := range edges {
		for _, b := range edges {
			for _, l := range lists[:5] {
				roots.Path(l, a, b)
				roots.Between(l, a, b)
			}
			for _, p := range paths {
				if roots.Included(nil, a, b, p, api.Sum{}) {
					t.Errorf("P6: leaf %d of %d is included by %d hashes of no meaning", a, b, len(p))
				}
				if a != b && roots.Extended(a, b, p, api.Sum{}, api.Sum{}) {
					t.Errorf("P7: from %d to %d by %d hashes of no meaning", a, b, len(p))
				}
			}
		}
	}
}

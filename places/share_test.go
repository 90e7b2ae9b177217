package places

import (
	"sync"
	"testing"

	"roots/api"
	"roots/digest"
)

// TestShared: a change makes the parts anew that its place is in, and shares all others with the map that was.
func TestShared(t *testing.T) {
	m := Empty()
	for i := range 20 {
		m = m.After(api.Change{Key: []byte{byte(i)}})
	}
	for kind := range 3 {
		c := api.Change{Kind: kind, Key: []byte{7}, Value: []byte("new"), Old: digest.Sum(nil)}
		next := m.After(c)
		if next == m {
			t.Fatalf("a change of kind %d makes no new map", kind)
		}
		at, old, p := place(digest.Sum(c.Key)), m.top, next.top
		for k := api.Levels - 1; k >= 0 && p != nil; k-- {
			if old == p {
				t.Errorf("kind %d: the part of %d levels that the place is in is the old one", kind, k+1)
			}
			var was, beside *part
			old, was = old.halves(at, k)
			p, beside = p.halves(at, k)
			if beside != was {
				t.Errorf("kind %d: the part of %d levels beside the way is made anew", kind, k)
			}
		}
	}
}

// TestSame: a change that changes nothing answers the map itself.
func TestSame(t *testing.T) {
	m := Empty().After(api.Change{Key: []byte("a"), Value: []byte("1")})
	for _, c := range []api.Change{
		{Kind: api.Delete, Key: []byte("b")},
		{Kind: api.Swap, Key: []byte("a"), Value: []byte("2")},
		{Kind: api.Swap, Key: []byte("b"), Value: []byte("2")},
		{Kind: 3, Key: []byte("a"), Value: []byte("2")},
	} {
		if m.After(c) != m {
			t.Errorf("kind %d, key %q: another map", c.Kind, c.Key)
		}
	}
}

// TestEmptyOnce: the table is whole for whoever comes first, and is not made again.
func TestEmptyOnce(t *testing.T) {
	var (
		empties emptyTable
		group   sync.WaitGroup
	)
	for range 32 {
		group.Go(func() {
			for k := range api.Levels {
				if empties.root(k+1) != node(empties.root(k), empties.root(k)) {
					t.Errorf("the root of the empty part of %d levels", k+1)
				}
			}
		})
	}
	group.Wait()
	if empties.root(0) != (api.Sum{}) {
		t.Errorf("the root of an empty place is not noughts")
	}
	empties.once.Do(func() { t.Errorf("the table is not made once") })
}

// TestEmptyShared: the maps that come of one empty map have its table, whatever the change does, so it is made once for all of them.
func TestEmptyShared(t *testing.T) {
	m := Empty()
	table := m.empties
	for _, c := range []api.Change{
		{Key: []byte("a"), Value: []byte("1")},
		{Kind: api.Swap, Key: []byte("a"), Value: []byte("2"), Old: digest.Sum([]byte("1"))},
		{Kind: api.Delete, Key: []byte("b")},
		{Kind: api.Delete, Key: []byte("a")},
	} {
		if m = m.After(c); m.empties != table {
			t.Errorf("the map after a change of kind %d has another table", c.Kind)
		}
	}
	if m != (Map{empties: table}) {
		t.Errorf("the emptied map is not the empty one")
	}
}

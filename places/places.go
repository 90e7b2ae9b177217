// Package places: maps as trees whose parts are never changed (P8, P9), and what the proofs of maps show (P10).
package places

import (
	"roots/api"
	"roots/digest"
)

// Map is a map of one time. The maps that changes make of it share its parts, so that each of them can be kept. The first one is made by Empty.
type Map struct {
	top     *part
	empties *emptyTable
}

// Empty is the map that has no entry.
func Empty() Map {
	return Map{empties: new(emptyTable)}
}

// part is a part of a map in which there is an entry. One without an entry is nil at every level, whatever was in it before, so that no hashes need be held against each other to tell it.
type part struct {
	root         api.Sum
	lower, upper *part  // its halves; not of one place
	entry        *entry // of one place
}

// entry is what a place has. Its texts cannot be written into, so no map changes by what was handed in or out.
type entry struct {
	key, value       string
	keySum, valueSum api.Sum
}

// After is the map that a change makes of m (P8). A change of another kind than the three makes none.
func (m Map) After(c api.Change) Map {
	keySum := digest.Sum(c.Key)
	at := place(keySum)
	old := m.find(at)
	has := old != nil && old.key == string(c.Key)
	switch {
	case c.Kind == api.Set, c.Kind == api.Swap && has && old.valueSum == c.Old:
		return m.with(at, &entry{string(c.Key), string(c.Value), keySum, digest.Sum(c.Value)})
	case c.Kind == api.Delete && has:
		return m.with(at, nil)
	}
	return m
}

// Root is the root of the map (P9).
func (m Map) Root() api.Sum {
	return m.top.rootAt(api.Levels, m.empties)
}

// with is the map that has another entry (nil: none) at a place.
func (m Map) with(at uint64, e *entry) Map {
	m.top = m.top.with(api.Levels, at, e, m.empties)
	return m
}

// find is the entry of a place; nil: it is empty.
func (m Map) find(at uint64) *entry {
	p := m.top
	for k := api.Levels - 1; p != nil && k >= 0; k-- {
		p, _ = p.halves(at, k)
	}
	if p == nil {
		return nil
	}
	return p.entry
}

// place is that of the key which has this hash (P8).
func place(keySum api.Sum) uint64 {
	var at uint64
	for _, b := range keySum[:8] {
		at = at<<8 | uint64(b)
	}
	return at
}

// isUpper tells whether a place is in the upper half of the part of k + 1 levels that it is in.
func isUpper(at uint64, k int) bool {
	return at>>k&1 == 1
}

// halves are the half of p, of k levels, that a place is in, and the one beside it.
func (p *part) halves(at uint64, k int) (way, beside *part) {
	switch {
	case p == nil:
		return nil, nil
	case isUpper(at, k):
		return p.upper, p.lower
	}
	return p.lower, p.upper
}

// rootAt is the root of a part of so many levels (P9).
func (p *part) rootAt(levels int, empties *emptyTable) api.Sum {
	if p == nil {
		return empties.root(levels)
	}
	return p.root
}

// with is the part, of so many levels, that has another entry (nil: none) at a place. Only the parts that the place is in are made anew.
func (p *part) with(levels int, at uint64, e *entry, empties *emptyTable) *part {
	if levels == 0 {
		return single(e)
	}
	k := levels - 1
	way, beside := p.halves(at, k)
	way = way.with(k, at, e, empties)
	if isUpper(at, k) {
		return join(beside, way, k, empties)
	}
	return join(way, beside, k, empties)
}

// single is the part of one place.
func single(e *entry) *part {
	if e == nil {
		return nil
	}
	return &part{root: entryRoot(e.keySum, e.valueSum), entry: e}
}

// join is the part whose halves are two of k levels.
func join(lower, upper *part, k int, empties *emptyTable) *part {
	if lower == nil && upper == nil {
		return nil
	}
	return &part{root: node(lower.rootAt(k, empties), upper.rootAt(k, empties)), lower: lower, upper: upper}
}

// entryRoot is the root of a place that has an entry, by the hashes of its key and its value (P9).
func entryRoot(keySum, valueSum api.Sum) api.Sum {
	return digest.Marked(2, keySum[:], valueSum[:])
}

// node is the root of the part that has two halves (P9).
func node(l, r api.Sum) api.Sum {
	return digest.Marked(3, l[:], r[:])
}

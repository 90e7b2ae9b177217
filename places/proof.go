package places

import (
	"math/bits"

	"roots/api"
	"roots/digest"
)

// Get tells what the map has for a key, and the proof of it (P9).
func (m Map) Get(key []byte) (value []byte, present bool, proof api.Proof) {
	keySum := digest.Sum(key)
	e := m.top.prove(api.Levels, place(keySum), &proof)
	switch {
	case e == nil:
		return nil, false, proof
	case e.key != string(key):
		proof.Taken, proof.Key, proof.Value = true, e.keySum, e.valueSum
		return nil, false, proof
	}
	return []byte(e.value), true, proof
}

// prove goes down to the entry of a place, and puts the roots of the parts beside the way into the proof on the way back, when that of the lowest level comes first.
func (p *part) prove(levels int, at uint64, proof *api.Proof) *entry {
	if p == nil {
		return nil
	}
	if levels == 0 {
		return p.entry
	}
	k := levels - 1
	way, beside := p.halves(at, k)
	e := way.prove(k, at, proof)
	if beside != nil {
		proof.Mask |= 1 << k
		proof.Path = append(proof.Path, beside.root)
	}
	return e
}

// Holds tells whether a proof shows what the map of that root has for a key (P10).
func Holds(key []byte, present bool, value []byte, p api.Proof, root api.Sum) bool {
	if len(p.Path) != bits.OnesCount64(p.Mask) {
		return false
	}
	keySum := digest.Sum(key)
	sum, ok := start(keySum, present, value, p)
	return ok && climb(sum, place(keySum), p) == root
}

// start is the root of the key's place, as it is told and as the proof has it; not ok: what is told cannot be so.
func start(keySum api.Sum, present bool, value []byte, p api.Proof) (sum api.Sum, ok bool) {
	switch {
	case present:
		return entryRoot(keySum, digest.Sum(value)), !p.Taken
	case p.Taken:
		return entryRoot(p.Key, p.Value), p.Key != keySum && place(p.Key) == place(keySum)
	}
	return api.Sum{}, true
}

// climb is where a proof leads from the root of a place; it has as many hashes as its Mask says. A proof comes without a map, so the table of empty parts is one of the call's own.
func climb(sum api.Sum, at uint64, p api.Proof) api.Sum {
	var empties emptyTable
	path := p.Path
	for k := range api.Levels {
		beside := empties.root(k)
		if p.Mask>>k&1 == 1 {
			beside, path = path[0], path[1:]
		}
		if isUpper(at, k) {
			sum = node(beside, sum)
		} else {
			sum = node(sum, beside)
		}
	}
	return sum
}

package roots_test

import (
	"crypto/sha256"
	"encoding/binary"
	"maps"

	"roots/api"
)

// The other way to maps: a map of the library, and hashes of the library level by level, from the places upwards.

// refEntry is what a place has.
type refEntry struct {
	key, value string
}

// refMap has the entries by their places.
type refMap map[uint64]refEntry

func refPlace(key string) uint64 {
	s := sha256.Sum256([]byte(key))
	return binary.BigEndian.Uint64(s[:8])
}

// refTwo is the hash of a mark and of two hashes.
func refTwo(mark byte, l, r api.Sum) api.Sum {
	return sha256.Sum256(append(append([]byte{mark}, l[:]...), r[:]...))
}

// refPair is the root of a place with an entry.
func refPair(key, value string) api.Sum {
	return refTwo(2, sha256.Sum256([]byte(key)), sha256.Sum256([]byte(value)))
}

// refAfter is P8, word by word.
func refAfter(m refMap, c api.Change) refMap {
	m = maps.Clone(m)
	key, at := string(c.Key), refPlace(string(c.Key))
	e, there := m[at]
	has := there && e.key == key
	if c.Kind == 0 {
		m[at] = refEntry{key, string(c.Value)}
	}
	if c.Kind == 1 && has {
		delete(m, at)
	}
	if c.Kind == 2 && has && sha256.Sum256([]byte(e.value)) == c.Old {
		m[at] = refEntry{key, string(c.Value)}
	}
	return m
}

// refLevels has for each level the roots of the parts that are not empty, by the bits that their places begin with.
type refLevels [65]map[uint64]api.Sum

// refEmpties are the roots of empty parts.
var refEmpties = func() (l [65]api.Sum) {
	for k := range 64 {
		l[k+1] = refTwo(3, l[k], l[k])
	}
	return l
}()

// refEmpty is the root of an empty part.
func refEmpty(level int) api.Sum {
	return refEmpties[level]
}

func refLevelsOf(m refMap) (l refLevels) {
	l[0] = map[uint64]api.Sum{}
	for at, e := range m {
		l[0][at] = refPair(e.key, e.value)
	}
	for k := range 64 {
		l[k+1] = map[uint64]api.Sum{}
		for at := range l[k] {
			l[k+1][at/2] = refTwo(3, l.part(k, at&^1), l.part(k, at|1))
		}
	}
	return l
}

// part is the root of a part, empty or not.
func (l refLevels) part(level int, at uint64) api.Sum {
	if s, ok := l[level][at]; ok {
		return s
	}
	return refEmpty(level)
}

func (l refLevels) root() api.Sum {
	return l.part(64, 0)
}

// refProof is P9's proof.
func refProof(m refMap, l refLevels, key string) (p api.Proof) {
	at := refPlace(key)
	for k := range 64 {
		if s, ok := l[k][at>>k^1]; ok {
			p.Mask |= 1 << k
			p.Path = append(p.Path, s)
		}
	}
	if e, there := m[at]; there && e.key != key {
		p.Taken, p.Key, p.Value = true, sha256.Sum256([]byte(e.key)), sha256.Sum256([]byte(e.value))
	}
	return p
}

// refLead is where a proof leads from a start at a place, by the hashes that its Mask asks for; it has them.
func refLead(start api.Sum, at uint64, p api.Proof) api.Sum {
	var beside [64]api.Sum
	next := 0
	for k := range beside {
		beside[k] = refEmpty(k)
		if p.Mask&(1<<k) != 0 {
			beside[k] = p.Path[next]
			next++
		}
	}
	for k, s := range beside {
		if at&(1<<k) != 0 {
			start = refTwo(3, s, start)
		} else {
			start = refTwo(3, start, s)
		}
	}
	return start
}

package roots_test

import (
	"bytes"
	"math/rand"
	"reflect"
	"testing"

	"roots/api"
	"roots/places"
	"roots/roots"
)

// Keys that lie as close as keys can.
const (
	oneOfTwo   = "eaapnhgijdldmjfh" // its place is that of otherOfTwo
	otherOfTwo = "abklanmgfnhofnnb"
	lowerKey   = "hoigjmbbajhelbfm" // its place and that of upperKey differ in the last bit alone
	upperKey   = "gpllidlfddlelnhp"
)

func set(key, value string) api.Change {
	return api.Change{Kind: api.Set, Key: []byte(key), Value: []byte(value)}
}

func remove(key string) api.Change {
	return api.Change{Kind: api.Delete, Key: []byte(key)}
}

func swap(key, old, value string) api.Change {
	return api.Change{Kind: api.Swap, Key: []byte(key), Value: []byte(value), Old: roots.Hash([]byte(old))}
}

// mapOf is the map that changes make of the empty one.
func mapOf(changes ...api.Change) places.Map {
	m := places.Empty()
	for _, c := range changes {
		m = m.After(c)
	}
	return m
}

// refMapOf is the same, by the other way.
func refMapOf(changes ...api.Change) refMap {
	m := refMap{}
	for _, c := range changes {
		m = refAfter(m, c)
	}
	return m
}

// checkMap holds a map against the other way: its root, and what it tells of keys, proofs too, and whether these hold.
func checkMap(t *testing.T, what string, m places.Map, want refMap, keys []string) {
	t.Helper()
	l := refLevelsOf(want)
	if m.Root() != l.root() {
		t.Errorf("P9: %s: the root is %s, want %s", what, shorts(m.Root()), shorts(l.root()))
	}
	for _, key := range keys {
		value, present, p := m.Get([]byte(key))
		e, there := want[refPlace(key)]
		has := there && e.key == key
		if present != has || has && string(value) != e.value || !has && value != nil {
			t.Errorf("P8: %s: %q: %v, %q, want %v, %q", what, key, present, value, has, e.value)
		}
		if ref := refProof(want, l, key); !reflect.DeepEqual(p, ref) {
			t.Errorf("P9: %s: the proof of %q is %v, want %v", what, key, p, ref)
		}
		if !roots.Holds([]byte(key), has, []byte(e.value), p, l.root()) {
			t.Errorf("P10: %s: what is so of %q does not hold", what, key)
		}
	}
}

// TestKeys: the keys of these tests lie as they are said to.
func TestKeys(t *testing.T) {
	if oneOfTwo == otherOfTwo || refPlace(oneOfTwo) != refPlace(otherOfTwo) {
		t.Errorf("%q and %q have two places", oneOfTwo, otherOfTwo)
	}
	if refPlace(lowerKey)+1 != refPlace(upperKey) || refPlace(lowerKey)%2 != 0 {
		t.Errorf("%q and %q do not lie side by side", lowerKey, upperKey)
	}
}

// TestMapKnown: P9, the document's examples.
func TestMapKnown(t *testing.T) {
	if got := shorts(mapOf().Root()); got != "7b8109af" {
		t.Errorf("P9: the root of the empty map: %s", got)
	}
	if got := shorts(mapOf(set("a", "1")).Root()); got != "ac0793b7" {
		t.Errorf("P9: the root of the map with 1 for a: %s", got)
	}
}

// TestChanges: P8, each kind where the key has its place, where nobody has it, and where another key has it.
func TestChanges(t *testing.T) {
	const a, b = oneOfTwo, otherOfTwo
	withOld := func(c api.Change, old string) api.Change {
		c.Old = roots.Hash([]byte(old))
		return c
	}
	withValue := func(c api.Change, value string) api.Change {
		c.Value = []byte(value)
		return c
	}
	for _, c := range []struct {
		what    string
		changes []api.Change
		want    refMap
	}{
		{"none", nil, refMap{}},
		{"set", []api.Change{set(a, "1")}, refMap{refPlace(a): {a, "1"}}},
		{"set again", []api.Change{set(a, "1"), set(a, "2")}, refMap{refPlace(a): {a, "2"}}},
		{"set, Old says nothing", []api.Change{withOld(set(a, "1"), "x"), withOld(set(a, "2"), "x")}, refMap{refPlace(a): {a, "2"}}},
		{"set where another key is", []api.Change{set(a, "1"), set(b, "2")}, refMap{refPlace(b): {b, "2"}}},
		{"set nothing for nothing", []api.Change{set("", "")}, refMap{refPlace(""): {"", ""}}},
		{"delete", []api.Change{set(a, "1"), remove(a)}, refMap{}},
		{"delete what is not there", []api.Change{remove(a)}, refMap{}},
		{"delete where another key is", []api.Change{set(a, "1"), remove(b)}, refMap{refPlace(a): {a, "1"}}},
		{"delete the key that came last", []api.Change{set(a, "1"), set(b, "2"), remove(b)}, refMap{}},
		{"delete the key that was put out", []api.Change{set(a, "1"), set(b, "2"), remove(a)}, refMap{refPlace(b): {b, "2"}}},
		{"delete, Value and Old say nothing", []api.Change{set(a, "1"), withOld(withValue(remove(a), "x"), "y")}, refMap{}},
		{"swap", []api.Change{set(a, "1"), swap(a, "1", "2")}, refMap{refPlace(a): {a, "2"}}},
		{"swap twice", []api.Change{set(a, "1"), swap(a, "1", "2"), swap(a, "2", "3")}, refMap{refPlace(a): {a, "3"}}},
		{"swap of another value", []api.Change{set(a, "1"), swap(a, "x", "2")}, refMap{refPlace(a): {a, "1"}}},
		{"swap of the value that was", []api.Change{set(a, "1"), set(a, "2"), swap(a, "1", "3")}, refMap{refPlace(a): {a, "2"}}},
		{"swap where nobody is", []api.Change{swap(a, "", "2")}, refMap{}},
		{"swap of noughts where nobody is", []api.Change{{Kind: api.Swap, Key: []byte(a), Value: []byte("2")}}, refMap{}},
		{"swap where another key is", []api.Change{set(a, "1"), swap(b, "1", "2")}, refMap{refPlace(a): {a, "1"}}},
		{"swap of the empty value", []api.Change{set(a, ""), swap(a, "", "2")}, refMap{refPlace(a): {a, "2"}}},
		{"side by side", []api.Change{set(lowerKey, "1"), set(upperKey, "2")}, refMap{refPlace(lowerKey): {lowerKey, "1"}, refPlace(upperKey): {upperKey, "2"}}},
		{"one of two side by side deleted", []api.Change{set(lowerKey, "1"), set(upperKey, "2"), remove(lowerKey)}, refMap{refPlace(upperKey): {upperKey, "2"}}},
		{"other kinds", []api.Change{set(a, "1"), {Kind: 3, Key: []byte(a), Value: []byte("2"), Old: roots.Hash([]byte("1"))}, {Kind: -1, Key: []byte(a), Value: []byte("2")}, {Kind: 256, Key: []byte("z")}}, refMap{refPlace(a): {a, "1"}}},
	} {
		checkMap(t, c.what, mapOf(c.changes...), c.want, []string{a, b, lowerKey, upperKey, "", "z"})
		if ref := refMapOf(c.changes...); !reflect.DeepEqual(ref, c.want) {
			t.Errorf("P8: %s: the other way has %v", c.what, ref)
		}
	}
}

// someChanges makes changes among few keys, so that they meet, two of them at one place and two side by side.
func someChanges(r *rand.Rand, n int) (changes []api.Change, keys []string) {
	keys = []string{"", "a", oneOfTwo, otherOfTwo, lowerKey, upperKey}
	for i := range 14 {
		keys = append(keys, string(rune('b'+i)))
	}
	for range n {
		key, old, value := keys[r.Intn(len(keys))], string(rune('0'+r.Intn(3))), string(rune('0'+r.Intn(3)))
		changes = append(changes, []api.Change{set(key, value), remove(key), swap(key, old, value)}[r.Intn(3)])
	}
	return changes, keys
}

// TestManyChanges: P8, P9: after every one of many changes, and for every map still when all of them are there: no map changes by what comes after it.
func TestManyChanges(t *testing.T) {
	changes, keys := someChanges(rand.New(rand.NewSource(8)), 150)
	var (
		all  []places.Map
		want []refMap
	)
	m, ref := places.Empty(), refMap{}
	for _, c := range changes {
		m, ref = m.After(c), refAfter(ref, c)
		all, want = append(all, m), append(want, ref)
		checkMap(t, "a map of many", m, ref, keys[:6])
	}
	for i := range all {
		if i%10 == 9 {
			checkMap(t, "an earlier map", all[i], want[i], keys)
		}
	}
}

// TestEmptied: P9, a map whose entries have all gone is the empty one, and its proofs have no hashes.
func TestEmptied(t *testing.T) {
	keys := []string{lowerKey, upperKey, "a", "b", "c"}
	empty := places.Empty()
	m := empty
	for _, k := range keys {
		m = m.After(set(k, k))
	}
	for _, k := range keys {
		m = m.After(remove(k))
	}
	checkMap(t, "an emptied map", m, refMap{}, keys)
	if m != empty {
		t.Errorf("P9: an emptied map is not the empty one")
	}
}

// TestProofLevels: P9, keys side by side have the root of each other's place at level 0.
func TestProofLevels(t *testing.T) {
	m := mapOf(set(lowerKey, "1"), set(upperKey, "2"))
	for key, beside := range map[string]api.Sum{lowerKey: refPair(upperKey, "2"), upperKey: refPair(lowerKey, "1")} {
		if _, _, p := m.Get([]byte(key)); p.Mask != 1 || len(p.Path) != 1 || p.Path[0] != beside || p.Taken {
			t.Errorf("P9: beside %q lies %v", key, p)
		}
	}
}

// TestMapsOwned: P1, P8: a map neither writes into what it is handed nor keeps it, and what it hands out is not its own.
func TestMapsOwned(t *testing.T) {
	memory := []byte("keyvalue and more")
	c := api.Change{Key: memory[:3], Value: memory[3:8]}
	m := mapOf(set("x", "y")).After(c)
	top := m.Root()
	if string(memory) != "keyvalue and more" {
		t.Errorf("P1: a change is written into")
	}
	clear(memory)
	for range 2 {
		value, present, p := m.Get([]byte("key"))
		if !present || string(value) != "value" || m.Root() != top {
			t.Errorf("P1: the map changes with what was handed in or out: %v, %q", present, value)
		}
		if !roots.Holds([]byte("key"), true, []byte("value"), p, top) {
			t.Errorf("P1: the proof changes with what was handed out")
		}
		clear(value[:cap(value)])
		clear(p.Path[:cap(p.Path)])
	}
	key := bytes.Repeat([]byte("k"), 5)
	m.Get(key)
	if string(key) != "kkkkk" {
		t.Errorf("P1: a key is written into")
	}
}

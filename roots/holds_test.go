package roots_test

import (
	"bytes"
	"math/bits"
	"math/rand"
	"slices"
	"sync"
	"testing"

	"roots/api"
	"roots/roots"
)

// holdsMap is a map in which a key is there, keys are not, and a key has another one's place.
func holdsMap() (m refMap, l refLevels) {
	m = refMapOf(set("a", "1"), set("b", ""), set("", "3"), set(oneOfTwo, "4"), set(lowerKey, "5"), set("c", "6"))
	return m, refLevelsOf(m)
}

// TestHolds: P10, ordinary inputs: a key that is there, one that is not, one whose place another key has.
func TestHolds(t *testing.T) {
	m, l := holdsMap()
	for _, key := range []string{"a", "b", "", oneOfTwo, lowerKey, "c", otherOfTwo, upperKey, "d", "e"} {
		e := m[refPlace(key)]
		p, k, has := refProof(m, l, key), []byte(key), e == refEntry{key, e.value}
		for _, value := range []string{"", "1", "3", "4", "5", "6", "x"} {
			if got := roots.Holds(k, true, []byte(value), p, l.root()); got != (has && value == e.value) {
				t.Errorf("P10: %q has %q: %v", key, value, got)
			}
			if got := roots.Holds(k, false, []byte(value), p, l.root()); got == has {
				t.Errorf("P10: %q is not there: %v", key, got)
			}
		}
		if roots.Holds(k, has, nil, p, l.root()) != (!has || e.value == "") {
			t.Errorf("P10: %q with no value", key)
		}
	}
}

// TestHoldsWrong: P10, what is near a proof shows nothing: another root, a bit of Mask or of a hash turned, hashes too many, too few or in another order, another key's proof.
func TestHoldsWrong(t *testing.T) {
	m, l := holdsMap()
	top := l.root()
	for _, key := range []string{"a", lowerKey, otherOfTwo, upperKey, "d"} {
		e := m[refPlace(key)]
		has := e.key == key
		p := refProof(m, l, key)
		if len(p.Path) < 2 {
			t.Fatalf("the proof of %q has %d hashes", key, len(p.Path))
		}
		no := func(what string, p api.Proof, top api.Sum) {
			t.Helper()
			if roots.Holds([]byte(key), has, []byte(e.value), p, top) {
				t.Errorf("P10: %q: %s", key, what)
			}
		}
		for at := range top {
			other := top
			other[at] ^= 1 << (at % 8)
			no("another root", p, other)
		}
		no("noughts for a root", p, api.Sum{})
		for k := range 64 {
			q := p
			q.Mask ^= 1 << k
			no("a bit of Mask turned", q, top)
			if q.Mask = p.Mask&^(1<<k) | 1<<(k+1); bits.OnesCount64(q.Mask) == len(p.Path) && q.Mask != p.Mask {
				no("a bit of Mask shifted", q, top)
			}
		}
		for _, path := range otherLengths(p.Path, refEmpty(0)) {
			q := p
			q.Path = path
			no("more or fewer hashes", q, top)
		}
		eachTurned(p.Path, func(path []api.Sum) {
			q := p
			q.Path = path
			no("a bit of a hash turned", q, top)
		})
		q := p
		q.Path = slices.Clone(p.Path)
		slices.Reverse(q.Path)
		no("hashes in another order", q, top)
		no("another key's proof", refProof(m, l, "c"), top)
	}
}

// TestHoldsTaken: P10, another key has the place: only one with the same first eight bytes, and another than the key itself.
func TestHoldsTaken(t *testing.T) {
	m, l := holdsMap()
	key, value := []byte(otherOfTwo), []byte("4")
	p, top := refProof(m, l, otherOfTwo), l.root()
	if !p.Taken || !roots.Holds(key, false, nil, p, top) || !roots.Holds(key, false, value, p, top) {
		t.Errorf("P10: another key has the place: it does not hold")
	}
	if roots.Holds(key, true, value, p, top) {
		t.Errorf("P10: a key is there whose place another one has")
	}
	for _, q := range []api.Proof{
		{Mask: p.Mask, Path: p.Path},
		{Mask: p.Mask, Path: p.Path, Taken: true},
		{Mask: p.Mask, Path: p.Path, Taken: true, Key: p.Key},
		{Mask: p.Mask, Path: p.Path, Taken: true, Key: p.Value, Value: p.Key},
		{Mask: p.Mask, Path: p.Path, Key: p.Key, Value: p.Value},
	} {
		if roots.Holds(key, false, value, q, top) {
			t.Errorf("P10: it holds with Taken %v, %s, %s", q.Taken, shorts(q.Key), shorts(q.Value))
		}
	}
	// The key that has the place: its own proof with Taken shows neither that it is there nor that it is not.
	q := refProof(m, l, oneOfTwo)
	q.Taken, q.Key, q.Value = true, roots.Hash([]byte(oneOfTwo)), roots.Hash(value)
	if roots.Holds([]byte(oneOfTwo), true, value, q, top) || roots.Holds([]byte(oneOfTwo), false, value, q, top) {
		t.Errorf("P10: the key's own hash is another key's")
	}
}

// TestHoldsTakenPlace: P10, each bit of the other key's hash: one turned among the first eight bytes is a key of another place, behind them it is another key of the same.
func TestHoldsTakenPlace(t *testing.T) {
	key := []byte("a")
	at := refPlace("a")
	for bit := range 256 {
		p := api.Proof{Taken: true, Key: roots.Hash(key), Value: api.Sum{7}}
		p.Key[bit/8] ^= 1 << (bit % 8)
		top := refLead(refTwo(2, p.Key, p.Value), at, p)
		if got, want := roots.Holds(key, false, nil, p, top), bit >= 64; got != want {
			t.Errorf("P10: with bit %d of the other key turned: %v", bit, got)
		}
		if roots.Holds(key, true, nil, p, top) {
			t.Errorf("P10: the key is there, with bit %d of the other key turned", bit)
		}
	}
	p := api.Proof{Taken: true, Key: roots.Hash(key), Value: roots.Hash([]byte("1"))}
	top := refLead(refPair("a", "1"), at, p)
	if roots.Holds(key, false, []byte("1"), p, top) || roots.Holds(key, true, []byte("1"), p, top) {
		t.Errorf("P10: Taken with the key's own hash")
	}
	if p.Taken = false; !roots.Holds(key, true, []byte("1"), p, top) {
		t.Errorf("P10: where Taken is false, Key and Value say nothing")
	}
	if !roots.Holds(key, false, nil, p, refEmpty(64)) {
		t.Errorf("P10: where Taken is false, Key and Value say nothing of a key that is not there")
	}
}

// TestHoldsEmpty: P10, the empty map has no key.
func TestHoldsEmpty(t *testing.T) {
	top := refEmpty(64)
	for _, key := range [][]byte{nil, {}, []byte("a"), []byte(lowerKey), bytes.Repeat([]byte("k"), 1000)} {
		for _, path := range [][]api.Sum{nil, {}} {
			if !roots.Holds(key, false, nil, api.Proof{Path: path}, top) {
				t.Errorf("P10: that the empty map has no %q does not hold", key)
			}
			if roots.Holds(key, true, nil, api.Proof{Path: path}, top) || roots.Holds(key, false, nil, api.Proof{Path: path, Taken: true}, top) {
				t.Errorf("P10: the empty map has %q, or another key", key)
			}
		}
		if roots.Holds(key, false, nil, api.Proof{}, api.Sum{}) {
			t.Errorf("P10: noughts are the root of the empty map")
		}
	}
	// As its words are: the root of an empty part may stand in Path too, for then it leads to the root as well.
	p := api.Proof{Mask: 1<<63 | 1<<5, Path: []api.Sum{refEmpty(5), refEmpty(63)}}
	if !roots.Holds([]byte("a"), false, nil, p, top) {
		t.Errorf("P10: the root of an empty part in Path does not lead to the root")
	}
}

// TestHoldsMasks: P10 for masks of all kinds with hashes of no map: the root is made of them by the other way.
func TestHoldsMasks(t *testing.T) {
	r := rand.New(rand.NewSource(10))
	masks := []uint64{0, 1, 1 << 63, 1<<63 | 1, 1<<64 - 1, 1<<64 - 2, 1<<63 - 1, 0x5555555555555555}
	for range 30 {
		masks = append(masks, r.Uint64(), r.Uint64()&r.Uint64()&r.Uint64())
	}
	for i, mask := range masks {
		key, value := []byte{byte(i), 'k'}, "value"
		count := bits.OnesCount64(mask)
		p := api.Proof{Mask: mask, Path: someSums(r, count)}
		there := refLead(refPair(string(key), value), refPlace(string(key)), p)
		not := refLead(api.Sum{}, refPlace(string(key)), p)
		if !roots.Holds(key, true, []byte(value), p, there) || !roots.Holds(key, false, []byte(value), p, not) {
			t.Errorf("P10: mask %x: it does not hold", mask)
		}
		if roots.Holds(key, false, []byte(value), p, there) || roots.Holds(key, true, []byte(value), p, not) {
			t.Errorf("P10: mask %x: what is not so holds", mask)
		}
		for _, path := range otherLengths(p.Path, api.Sum{}) {
			q := api.Proof{Mask: mask, Path: path}
			if roots.Holds(key, true, []byte(value), q, there) || roots.Holds(key, false, nil, q, not) {
				t.Errorf("P10: mask %x: it holds with %d hashes for %d", mask, len(path), count)
			}
		}
	}
}

// TestHoldsEnds: P1, the call ends and does not panic, whatever is in the proof.
func TestHoldsEnds(t *testing.T) {
	r := rand.New(rand.NewSource(11))
	for _, mask := range []uint64{0, 1, 1 << 63, 1<<64 - 1, r.Uint64()} {
		for _, length := range []int{0, 1, 2, 31, 32, 63, 64, 65, 130, 1 << 16} {
			for _, key := range [][]byte{nil, {}, make([]byte, 1<<16)} {
				for i := range 4 {
					p := api.Proof{Mask: mask, Path: make([]api.Sum, length), Taken: i%2 == 1, Key: roots.Hash(key)}
					if roots.Holds(key, i/2 == 1, key, p, api.Sum{}) {
						t.Errorf("P10: noughts are a root, with mask %x and %d hashes", mask, length)
					}
				}
			}
		}
	}
}

// TestHoldsOwned: P1, what is handed in is not written into, nor the room behind it, and not kept.
func TestHoldsOwned(t *testing.T) {
	m, l := holdsMap()
	p := refProof(m, l, "a")
	room := append(slices.Clone(p.Path), api.Sum{1}, api.Sum{2})
	memory := []byte("a1 and more")
	old := slices.Clone(room)
	for n := range room {
		q := p
		q.Path = room[:n]
		for _, present := range []bool{true, false} {
			roots.Holds(memory[:1], present, memory[1:2], q, l.root())
		}
	}
	if !slices.Equal(room, old) || string(memory) != "a1 and more" {
		t.Errorf("P1: what was handed in is written into")
	}
	p.Path = room[:len(p.Path)]
	if !roots.Holds(memory[:1], true, memory[1:2], p, l.root()) {
		t.Errorf("P10: it does not hold")
	}
	p.Path[0][0] ^= 1
	if roots.Holds(memory[:1], true, memory[1:2], p, l.root()) {
		t.Errorf("P1: the path is that of the call before")
	}
	p.Path[0][0] ^= 1
	memory[1] = '2'
	if roots.Holds(memory[:1], true, memory[1:2], p, l.root()) {
		t.Errorf("P1: the value is that of the call before")
	}
}

// TestHoldsTogether: one answer, whoever else asks.
func TestHoldsTogether(t *testing.T) {
	m, l := holdsMap()
	p, q := refProof(m, l, "a"), refProof(m, l, "d")
	var group sync.WaitGroup
	for range 50 {
		group.Go(func() {
			if !roots.Holds([]byte("a"), true, []byte("1"), p, l.root()) || !roots.Holds([]byte("d"), false, nil, q, l.root()) || roots.Holds([]byte("d"), true, nil, q, l.root()) {
				t.Errorf("P10: among many that ask at a time the answer is another")
			}
		})
	}
	group.Wait()
}

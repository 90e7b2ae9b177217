package roots_test

import (
	"bytes"
	"fmt"
	"math/rand"
	"slices"
	"strings"
	"sync"
	"testing"

	"roots/api"
	"roots/roots"
)

// lifeBook is the ledger of a life: seven changes in their order, four records, the last one not of all changes.
func lifeBook() refBook {
	var b refBook
	for _, s := range aLife() {
		s.ref(&b)
	}
	return b
}

// lifeBundle is what that ledger exports, by its parts.
func lifeBundle() refBundle {
	b := lifeBook()
	return refBundleOf(b.texts(), b.records)
}

// someBundles are bundles, small and greater ones.
func someBundles() map[string]string {
	var none, places, small refBook
	for _, s := range []step{queues(remove("a")), sequences(1)} {
		s.ref(&places)
	}
	for _, s := range []step{queues(set("a", "1")), queues(swap("a", "1", "2")), sequences(2), publishes(1)} {
		s.ref(&small)
	}
	return map[string]string{"none": none.export(), "no record": places.export(), "small": small.export(), "a life": lifeBundle().bytes()}
}

// TestAuditBegin: P18, no bytes, and what begins otherwise.
func TestAuditBegin(t *testing.T) {
	if _, _, err := roots.Audit(nil); !isFailed(err, "Audit", api.ErrBundle) {
		t.Errorf("P18: nil: %v", err)
	}
	for what, s := range someBundles() {
		for _, begin := range []string{"", "RB", "RB0", "RB2", "rb1", "RB11", " RB1", "RB1RB1", "\x00\x00\x00"} {
			noBundle(t, what+" behind "+begin, begin+s[3:])
		}
		for at := range 3 {
			for v := range 256 {
				if other := []byte(s); other[at] != byte(v) {
					other[at] = byte(v)
					noBundle(t, fmt.Sprintf("%s, byte %d is %d", what, at, v), string(other))
				}
			}
		}
	}
}

// TestAuditBytes: P18, a bundle that ends anywhere, that has a byte more or less anywhere, or a bit turned.
func TestAuditBytes(t *testing.T) {
	for what, s := range someBundles() {
		for at := range len(s) {
			noBundle(t, fmt.Sprintf("%s, %d bytes", what, at), s[:at])
			noBundle(t, fmt.Sprintf("%s, without byte %d", what, at), s[:at]+s[at+1:])
			wrong := []byte(s)
			wrong[at] ^= 1 << (at % 8)
			noBundle(t, fmt.Sprintf("%s, a bit of byte %d turned", what, at), string(wrong))
		}
		for at := range len(s) + 1 {
			for _, more := range []string{"\x00", "\x01", "\xff"} {
				noBundle(t, fmt.Sprintf("%s, %x more at %d", what, more, at), s[:at]+more+s[at:])
			}
		}
		noBundle(t, what+", much more", s+strings.Repeat("\x00", 1<<16))
		noBundle(t, what+", twice", s+s)
	}
}

// TestAuditCounts: P18, numbers of changes and of records that the bytes do not have, with the roots of those that are there and of as many as it says.
func TestAuditCounts(t *testing.T) {
	whole := lifeBundle()
	for _, n := range []int{0, 1, 2, 3, 4, 5, 6, 7, 8, 9, 256, 263, 1 << 16, 1<<24 + 7, 1<<31 - 1, 1 << 31, 1<<31 + 7, 1<<32 - 1} {
		if n != whole.changes {
			b := whole
			b.changes = n
			noBundle(t, fmt.Sprint("changes: ", n), b.bytes())
			b.heads = refBundleOf(b.texts[:min(n, len(b.texts))], b.told).heads
			noBundle(t, fmt.Sprintf("changes: %d, and their root", n), b.bytes())
			b.records, b.told = 0, nil
			b.heads[1] = roots.Hash(nil)
			noBundle(t, fmt.Sprintf("changes: %d, and no record", n), b.bytes())
		}
		if n != whole.records {
			b := whole
			b.records = n
			noBundle(t, fmt.Sprint("records: ", n), b.bytes())
			b.heads = refBundleOf(b.texts, b.told[:min(n, len(b.told))]).heads
			noBundle(t, fmt.Sprintf("records: %d, and their root", n), b.bytes())
		}
	}
}

// noChanges are texts that are no change.
func noChanges() map[string]string {
	key, value, old := strings.Repeat("k", 21), strings.Repeat("v", 41), strings.Repeat("o", 32)
	no := map[string]string{
		"no bytes":                  "",
		"a key of 21 bytes, Set":    "\x00" + refShort(21) + key + refShort(0),
		"a key of 21 bytes, Delete": "\x01" + refShort(21) + key,
		"a key of 21 bytes, Swap":   "\x02" + refShort(21) + key + refShort(0) + old,
		"a key of 276 bytes":        "\x01" + refShort(276) + strings.Repeat("k", 276),
		"a key of 276 bytes, of 20": "\x01" + refShort(276) + key[:20],
		"a value of 41 bytes, Set":  "\x00" + refShort(0) + refShort(41) + value,
		"a value of 41 bytes, Swap": "\x02" + refShort(0) + refShort(41) + value + old,
		"a value of 296 bytes":      "\x00" + refShort(0) + refShort(296) + strings.Repeat("v", 296),
		"a Delete with a value":     "\x01" + refShort(1) + "a" + refShort(1) + "1",
		"a Delete with no value":    "\x01" + refShort(1) + "a" + refShort(0),
		"a Delete with Old":         "\x01" + refShort(1) + "a" + old,
		"a Set with Old":            "\x00" + refShort(1) + "a" + refShort(0) + old,
		"a Swap without Old":        "\x02" + refShort(1) + "a" + refShort(0),
		"as long as can be":         strings.Repeat("\x00", 1<<16-1),
	}
	for _, c := range []api.Change{set("a", "1"), set("", ""), remove("ab"), remove(""), swap("a", "1", "2")} {
		s := refChange(c)
		for kind := 3; kind < 256; kind++ {
			no[fmt.Sprintf("kind %d, like %x", kind, s)] = string([]byte{byte(kind)}) + s[1:]
		}
		for n := range len(s) {
			no[fmt.Sprintf("%d bytes of %x", n, s)] = s[:n]
		}
		for _, more := range []string{"\x00", "\x01", "\x00\x00", s} {
			no[fmt.Sprintf("%x and %x", s, more)] = s + more
		}
	}
	return no
}

// TestAuditNoChange: P18, a change that is none, at the beginning, at the end and alone, where all counts, lengths and roots are those of what is there.
func TestAuditNoChange(t *testing.T) {
	b := lifeBook()
	whole := b.texts()
	for what, s := range noChanges() {
		noBundle(t, what+", alone", refBundleOf([]string{s}, nil).bytes())
		noBundle(t, what+", first", refBundleOf(append([]string{s}, whole...), nil).bytes())
		noBundle(t, what+", last", refBundleOf(append(slices.Clone(whole), s), b.records).bytes())
		noBundle(t, what+", for one", refBundleOf(append(slices.Clone(whole[:6]), s), b.records).bytes())
	}
	for _, c := range []api.Change{set(strings.Repeat("k", 20), strings.Repeat("v", 40)), remove(strings.Repeat("k", 20)), swap(strings.Repeat("k", 20), "", strings.Repeat("v", 40)), {}, remove(""), {Kind: api.Swap}} {
		more := refBundleOf(append(slices.Clone(whole), refChange(c)), b.records)
		_, r := b.heads()
		audits(t, fmt.Sprintf("with %x", refChange(c)), more.bytes(), api.Head{Size: 8, Root: more.heads[0]}, r)
	}
}

// TestAuditLengths: P18, a length that is not the change's own, though the change is one and the roots are those of the change.
func TestAuditLengths(t *testing.T) {
	whole := lifeBundle()
	for i, text := range whole.texts {
		own := len(text)
		for _, n := range []int{0, 1, own - 1, own + 1, own + 2, own + 256, 1 << 15, 1<<16 - 1} {
			b := whole
			b.lengths = slices.Clone(whole.lengths)
			b.lengths[i] = n
			noBundle(t, fmt.Sprintf("a length of %d for %d", n, own), b.bytes())
			if n > own && n < 1000 {
				b.texts = slices.Clone(whole.texts)
				b.texts[i] += strings.Repeat("\x00", n-own)
				noBundle(t, fmt.Sprintf("a length of %d for %d, and as many bytes", n, own), b.bytes())
			}
		}
	}
}

// sized has the records of the first changes, so many for each, with the roots that P11 has for these; of more than there are, the roots of all.
func (b *refBook) sized(sizes ...int) (l []api.Record) {
	for _, n := range sizes {
		r, _ := b.recordOf(min(n, len(b.order)))
		r.Size = n
		l = append(l, r)
	}
	return l
}

// TestAuditSizes: P18, sizes of records that do not rise, begin below 1 or lie above the number of changes, where all roots are those of what is there; and those that may be.
func TestAuditSizes(t *testing.T) {
	b := lifeBook()
	texts := b.texts()
	no := [][]int{{0}, {0, 1}, {0, 7}, {1, 0}, {1, 1}, {7, 7}, {1, 2, 2}, {1, 1, 2}, {2, 1}, {1, 3, 2}, {7, 6}, {3, 7, 5}, {1, 2, 3, 4, 5, 6, 7, 7}, {8}, {7, 8}, {1, 8}, {8, 9}, {263}, {1<<31 - 1}, {1 << 31}, {1<<32 - 1}, {1, 1<<32 - 1}, {1<<32 - 1, 1}, {1, 2, 1 << 24}}
	for _, sizes := range no {
		noBundle(t, fmt.Sprint("records of ", sizes), refBundleOf(texts, b.sized(sizes...)).bytes())
	}
	for _, sizes := range [][]int{{}, {1}, {7}, {6}, {1, 2}, {1, 7}, {6, 7}, {2, 3, 5}, {1, 2, 3, 4, 5, 6, 7}} {
		bundle := refBundleOf(texts, b.sized(sizes...))
		audits(t, fmt.Sprint("records of ", sizes), bundle.bytes(), api.Head{Size: 7, Root: bundle.heads[0]}, api.Head{Size: len(sizes), Root: bundle.heads[1]})
	}
	noBundle(t, "a record of no changes, where there are none", refBundleOf(nil, new(refBook).sized(0)).bytes())
	noBundle(t, "a record of one change, where there are none", refBundleOf(nil, []api.Record{{Size: 1, Log: roots.Hash(nil), Map: refEmpty(64)}}).bytes())
}

// TestAuditRecords: P18, a record with a root that is not P11's, where the records' head is that of what is there.
func TestAuditRecords(t *testing.T) {
	whole := lifeBundle()
	with := func(k int, r api.Record) string {
		told := slices.Clone(whole.told)
		told[k] = r
		return refBundleOf(whole.texts, told).bytes()
	}
	for k, r := range whole.told {
		if with(k, r) != whole.bytes() {
			t.Fatalf("with its own record %d the bundle is another one", k)
		}
		for at := range 32 {
			log, places := r, r
			log.Log[at] ^= 1 << (at % 8)
			places.Map[at] ^= 1 << (at % 8)
			noBundle(t, fmt.Sprintf("record %d, byte %d of Log", k, at), with(k, log))
			noBundle(t, fmt.Sprintf("record %d, byte %d of Map", k, at), with(k, places))
		}
		other := whole.told[(k+1)%len(whole.told)]
		for what, wrong := range map[string]api.Record{
			"noughts":                 {Size: r.Size},
			"the roots of nothing":    {Size: r.Size, Log: roots.Hash(nil), Map: refEmpty(64)},
			"the roots in each other": {Size: r.Size, Log: r.Map, Map: r.Log},
			"another one's Log":       {Size: r.Size, Log: other.Log, Map: r.Map},
			"another one's Map":       {Size: r.Size, Log: r.Log, Map: other.Map},
			"another one's size":      {Size: other.Size, Log: r.Log, Map: r.Map},
			"all changes' root":       {Size: r.Size, Log: whole.heads[0], Map: r.Map},
		} {
			noBundle(t, fmt.Sprintf("record %d with %s", k, what), with(k, wrong))
		}
	}
}

// TestAuditChanged: P18, other changes than the records tell of, where the changes' head is that of what is there: the same in another order, one for another, one less, one more.
func TestAuditChanged(t *testing.T) {
	b := lifeBook()
	whole := b.texts()
	another := refChange(set("other", "value"))
	for i := range whole {
		other := slices.Clone(whole)
		other[i] = another
		last := i == len(whole)-1 // no record tells of the last one
		if last {
			bundle := refBundleOf(other, b.records)
			audits(t, "another last change", bundle.bytes(), api.Head{Size: 7, Root: bundle.heads[0]}, api.Head{Size: 4, Root: bundle.heads[1]})
			continue
		}
		noBundle(t, fmt.Sprintf("another change for %d", i), refBundleOf(other, b.records).bytes())
		noBundle(t, fmt.Sprintf("without change %d", i), refBundleOf(slices.Delete(slices.Clone(whole), i, i+1), b.records).bytes())
		noBundle(t, fmt.Sprintf("one more ahead of change %d", i), refBundleOf(slices.Insert(slices.Clone(whole), i, another), b.records).bytes())
		turned := slices.Clone(whole)
		turned[i], turned[i+1] = turned[i+1], turned[i]
		if i+1 < len(whole)-1 {
			noBundle(t, fmt.Sprintf("changes %d and %d in the other order", i, i+1), refBundleOf(turned, b.records).bytes())
		}
	}
}

// TestAuditHeads: P18, a head's root that is not its own.
func TestAuditHeads(t *testing.T) {
	for what, whole := range map[string]refBundle{"none": refBundleOf(nil, nil), "a life": lifeBundle()} {
		for k := range 2 {
			for at := range 32 {
				b := whole
				b.heads[k][at] ^= 1 << (at % 8)
				noBundle(t, fmt.Sprintf("%s, head %d, byte %d", what, k, at), b.bytes())
			}
			b := whole
			b.heads[k] = api.Sum{}
			noBundle(t, fmt.Sprintf("%s, head %d is noughts", what, k), b.bytes())
		}
	}
	whole := lifeBundle()
	last := whole.told[len(whole.told)-1]
	for what, heads := range map[string][2]api.Sum{
		"in each other":       {whole.heads[1], whole.heads[0]},
		"of nothing":          {roots.Hash(nil), roots.Hash(nil)},
		"changes of nothing":  {roots.Hash(nil), whole.heads[1]},
		"records of nothing":  {whole.heads[0], roots.Hash(nil)},
		"the last Log":        {last.Log, whole.heads[1]},
		"fewer changes":       {refBundleOf(whole.texts[:6], nil).heads[0], whole.heads[1]},
		"fewer records":       {whole.heads[0], refBundleOf(nil, whole.told[:3]).heads[1]},
		"twice the changes'":  {whole.heads[0], whole.heads[0]},
		"the changes' and 0s": {whole.heads[0]},
	} {
		b := whole
		b.heads = heads
		noBundle(t, "heads "+what, b.bytes())
	}
}

// checkAudit holds Audit against the other way.
func checkAudit(t *testing.T, bundle string) (ok bool) {
	t.Helper()
	changes, records, ok := refAudit(bundle)
	if ok {
		audits(t, fmt.Sprintf("%x", bundle), bundle, changes, records)
	} else {
		noBundle(t, fmt.Sprintf("%x", bundle), bundle)
	}
	return ok
}

// turnedParts is a bundle with one of its parts made another one at random; most roots that hang on it are made anew.
func turnedParts(r *rand.Rand, b refBook) string {
	texts, told := b.texts(), slices.Clone(b.records)
	i, k := r.Intn(len(texts)), r.Intn(len(told)+1)
	switch r.Intn(9) {
	case 0:
		texts = slices.Delete(texts, i, i+1)
	case 1:
		texts = slices.Insert(texts, i, refChange(remove("new")))
	case 2:
		s := []byte(texts[i])
		s[r.Intn(len(s))] ^= 1 << r.Intn(8)
		texts[i] = string(s)
	case 3:
		texts = append(texts, texts[i])
	case 4:
		told = told[:k]
	case 5:
		told = slices.Insert(told, k, b.sized(r.Intn(len(texts)+3))...)
	case 6:
		told = slices.Delete(told, k/2, k)
	case 7:
		texts = texts[:i]
		told = slices.DeleteFunc(told, func(t api.Record) bool { return t.Size > i })
	}
	bundle := refBundleOf(texts, told)
	if r.Intn(9) == 0 {
		bundle.heads[r.Intn(2)][r.Intn(32)] ^= 1 << r.Intn(8)
	}
	return bundle.bytes()
}

// TestAuditParts: P18, bundles of many ledgers with parts made others: those that some ledger exports, and those that none does.
func TestAuditParts(t *testing.T) {
	r := rand.New(rand.NewSource(18))
	var is [2]int
	for range 20 {
		var b refBook
		steps, _ := someSteps(r, 20)
		for _, s := range append(steps, queues(set("a", "1")), sequences(2)) {
			s.ref(&b)
		}
		for range 40 {
			if checkAudit(t, turnedParts(r, b)) {
				is[1]++
			} else {
				is[0]++
			}
		}
	}
	if is[0] < 100 || is[1] < 100 {
		t.Errorf("of the bundles %d can be and %d cannot", is[1], is[0])
	}
}

// TestAuditEnds: P1, Audit ends and does not panic: at bytes of no meaning, and where great numbers stand ahead of few bytes or of many.
func TestAuditEnds(t *testing.T) {
	r := rand.New(rand.NewSource(19))
	for n := range 300 {
		b := make([]byte, n)
		r.Read(b)
		noBundle(t, "bytes of no meaning", string(b))
		noBundle(t, "bytes of no meaning behind the beginning", "RB1"+string(b))
		noBundle(t, "bytes of no meaning behind small numbers", "RB1\x00\x00\x00"+string(b))
		noBundle(t, "bytes of no meaning behind no changes", "RB1\x00\x00\x00\x00\x00\x00\x00"+string(b))
	}
	for _, v := range []string{"\x00", "\x01", "\x02", "\x7f", "\x80", "\xff"} {
		noBundle(t, "all bytes the same", strings.Repeat(v, 1<<20))
		for _, n := range []int{0, 1, 68, 1 << 20} {
			noBundle(t, "all changes the same", "RB1\xff\xff\xff\xff"+strings.Repeat(v, n))
			noBundle(t, "all records the same", "RB1\x00\x00\x00\x00\xff\xff\xff\xff"+strings.Repeat(v, n))
		}
	}
	noBundle(t, "many changes, but not as many", "RB1\xff\xff\xff\xff"+strings.Repeat("\x00\x03\x01\x00\x00", 1<<17))
}

// TestAuditOwned: P1, bytes that are handed in are not written into, nor is the room behind them; what was answered does not change with them, nor does what is answered then.
func TestAuditOwned(t *testing.T) {
	for what, s := range someBundles() {
		for _, wrong := range []string{"", "no "} {
			memory := []byte(wrong + s + "room behind it")
			was := bytes.Clone(memory)
			b := memory[: len(wrong)+len(s) : len(memory)-2]
			changes, records, err := roots.Audit(b)
			if !bytes.Equal(memory, was) {
				t.Errorf("P1: %s%s is written into", wrong, what)
			}
			told := fmt.Sprint(changes, records, err)
			scribble(b)
			if fmt.Sprint(changes, records, err) != told {
				t.Errorf("P1: what was told of %s%s changes with it", wrong, what)
			}
			noBundle(t, what+" written into", string(b))
			copy(memory, was)
			again, more, err := roots.Audit(b)
			if fmt.Sprint(again, more, err) != told {
				t.Errorf("P1: of %s%s another thing is told than before", wrong, what)
			}
		}
	}
}

// TestAuditTogether: many that look at the same bytes at once, and at others, are told the same as one.
func TestAuditTogether(t *testing.T) {
	var group sync.WaitGroup
	for what, s := range someBundles() {
		changes, records, ok := refAudit(s)
		if !ok {
			t.Fatalf("%s is no bundle", what)
		}
		b := []byte(s)
		for range 8 {
			group.Go(func() {
				if h, r, err := roots.Audit(b); h != changes || r != records || err != nil {
					t.Errorf("P18: %s: %v, %v, %v", what, h, r, err)
				}
			})
		}
	}
	group.Wait()
}

// FuzzAudit: P1, P18, whatever the bytes are: Audit ends, does not panic, and tells what the other way does.
func FuzzAudit(f *testing.F) {
	for _, s := range someBundles() {
		f.Add([]byte(s))
		f.Add([]byte(s[:len(s)/2]))
	}
	r := rand.New(rand.NewSource(20))
	for range 20 {
		f.Add([]byte(turnedParts(r, lifeBook())))
	}
	f.Fuzz(func(t *testing.T, b []byte) {
		checkAudit(t, string(b))
	})
}

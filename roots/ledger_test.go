package roots_test

import (
	"bytes"
	"encoding/hex"
	"fmt"
	"math"
	"math/rand"
	"reflect"
	"slices"
	"strings"
	"testing"

	"roots/api"
	"roots/plain"
	"roots/roots"
)

// TestLedgerKnown: P12, the document's frame, and what an empty ledger tells.
func TestLedgerKnown(t *testing.T) {
	d := &tape{}
	x := opened(t, d)
	if h, r := x.Heads(); h != (api.Head{Root: roots.Hash(nil)}) || r != h || x.Waiting() != 0 {
		t.Errorf("P15: an empty ledger has the heads %v, %v, and %d wait", h, r, x.Waiting())
	}
	if err := x.Queue(remove("a")); err != nil {
		t.Fatal(err)
	}
	if got := hex.EncodeToString(d.data); got != "00000005"+"5101000161"+"5843168c" {
		t.Errorf("P12: the disk has %s", got)
	}
	take(t, x, &refBook{waiting: []api.Change{remove("a")}}, queues(set("a", "1")), sequences(2), publishes(2))
	if r, _ := x.Record(0); shorts(r.Map) != "ac0793b7" || r.Size != 2 {
		t.Errorf("P11: the record is of %d changes, the map's root %s", r.Size, shorts(r.Map))
	}
	if a, _ := x.Get([]byte("a"), -1); !roots.Holds([]byte("a"), false, nil, a.Proof, refEmpty(64)) || shorts(refEmpty(64)) != "7b8109af" {
		t.Errorf("P15: record -1 is not of the empty map")
	}
}

// TestLife: P11 to P15, every step of a ledger's life: what it tells, what its disk has, and what is told when that is opened.
func TestLife(t *testing.T) {
	d := &tape{}
	x := opened(t, d)
	var b refBook
	for _, s := range aLife() {
		take(t, x, &b, s)
		checkBook(t, s.what, x, b)
		if string(d.data) != b.disk {
			t.Fatalf("P12: %s: the disk has %x, want %x", s.what, d.data, b.disk)
		}
		if y := again(t, b.disk); everything(y, lifeKeys) != everything(x, lifeKeys) {
			t.Errorf("P12: %s: another ledger when it is opened again", s.what)
		}
	}
	if len(b.records) != 4 || len(b.waiting) != 2 || len(b.order) != 7 {
		t.Fatalf("a life with %d records, %d that wait, %d in order", len(b.records), len(b.waiting), len(b.order))
	}
}

// someSteps are steps of all kinds in any order.
func someSteps(r *rand.Rand, n int) (steps []step, keys []string) {
	changes, keys := someChanges(r, n)
	for _, c := range changes {
		switch k := r.Intn(10); {
		case k < 6:
			steps = append(steps, queues(c))
		case k < 8:
			steps = append(steps, sequences(1+r.Intn(5)))
		default:
			steps = append(steps, publishes(1+r.Intn(5)))
		}
	}
	return steps, keys
}

// TestManySteps: P11 to P15 for many steps, with all that the ledger tells in the end, and again when it is opened.
func TestManySteps(t *testing.T) {
	steps, keys := someSteps(rand.New(rand.NewSource(12)), 150)
	d := &tape{}
	x := opened(t, d)
	var b refBook
	for i, s := range steps {
		take(t, x, &b, s)
		if i%10 == 0 {
			checkBook(t, s.what, x, b)
		}
		if i%50 == 49 { // the rest of its life it lives as one that was opened
			x = opened(t, d)
		}
	}
	if string(d.data) != b.disk {
		t.Errorf("P12: the disk has %x, want %x", d.data, b.disk)
	}
	for _, y := range []*roots.Ledger{x, again(t, b.disk)} {
		checkBook(t, "many steps", y, b)
		checkGets(t, y, b, keys)
		checkPaths(t, y, b)
	}
}

// checkGets holds what a ledger tells of keys in the map of each record against the other way.
func checkGets(t *testing.T, x *roots.Ledger, b refBook, keys []string) {
	t.Helper()
	for k := -1; k < len(b.records); k++ {
		m := b.mapOf(k)
		l := refLevelsOf(m)
		for _, key := range keys {
			e, there := m[refPlace(key)]
			want := api.Answer{Record: k, Proof: refProof(m, l, key)}
			if there && e.key == key {
				want.Present, want.Value = true, []byte(e.value)
			}
			a, err := x.Get([]byte(key), k)
			if err != nil || !reflect.DeepEqual(a, want) {
				t.Errorf("P15: Get(%q, %d): %v, %v, want %v", key, k, a, err, want)
			}
			if !roots.Holds([]byte(key), a.Present, a.Value, a.Proof, l.root()) {
				t.Errorf("P15: what Get(%q, %d) tells does not hold", key, k)
			}
		}
	}
}

// checkPaths holds all paths of a ledger against the other way.
func checkPaths(t *testing.T, x *roots.Ledger, b refBook) {
	t.Helper()
	l := b.leaves()
	for n := range len(l) + 1 {
		for m := range n + 1 {
			if m < n {
				if p, err := x.Path(m, n); err != nil || !slices.Equal(p, refPath(l[:n], m)) {
					t.Errorf("P15: Path(%d, %d): %s, %v", m, n, shorts(p...), err)
				}
			}
			var want []api.Sum
			if m > 0 {
				want = refFrom(l[:n], m, true)
			}
			if p, err := x.Between(m, n); err != nil || !slices.Equal(p, want) {
				t.Errorf("P15: Between(%d, %d): %s, %v", m, n, shorts(p...), err)
			}
		}
	}
}

// TestCuts: P11, by whatever cuts changes get their places and are made known, they make the same.
func TestCuts(t *testing.T) {
	changes, keys := someChanges(rand.New(rand.NewSource(13)), 24)
	var heads []api.Head
	var last []api.Record
	for _, cut := range []int{1, 2, 5, 23, 24, 25, math.MaxInt} {
		d := &tape{}
		x := opened(t, d)
		var b refBook
		for _, c := range changes {
			take(t, x, &b, queues(c))
		}
		for len(b.waiting) > 0 {
			take(t, x, &b, sequences(cut))
		}
		for take(t, x, &b, publishes(cut)); b.records[len(b.records)-1].Size < len(changes); {
			take(t, x, &b, publishes(cut))
		}
		checkBook(t, fmt.Sprint("cut by ", cut), x, b)
		checkGets(t, x, refBook{records: b.records[:1], maps: b.maps[:1]}, keys)
		h, r := x.Heads()
		k, _ := x.Record(r.Size - 1)
		heads, last = append(heads, h), append(last, k)
	}
	for i := range heads {
		if heads[i] != heads[0] || last[i] != last[0] {
			t.Errorf("P11: by another cut there are %v, %v", heads[i], last[i])
		}
	}
}

// TestWaitingOrder: P11, changes get their places in the order in which they came, and what they make shows it.
func TestWaitingOrder(t *testing.T) {
	_, x, _ := lived(t, queues(set("a", "1")), queues(set("a", "2")), queues(swap("a", "2", "3")), sequences(1), queues(set("a", "4")), sequences(9), publishes(1), publishes(1), publishes(1), publishes(1))
	for k, want := range []string{"1", "2", "3", "4"} {
		if a, err := x.Get([]byte("a"), k); string(a.Value) != want || err != nil {
			t.Errorf("P11: record %d has %q, want %q", k, a.Value, want)
		}
	}
}

// TestQueueEdges: P13, the longest keys and values, those that are longer, and kinds that are none: of these the disk is not asked.
func TestQueueEdges(t *testing.T) {
	key, value := strings.Repeat("k", 20), strings.Repeat("v", 40)
	long := string(make([]byte, 1<<17))
	withValue := func(c api.Change, value string) api.Change {
		c.Value, c.Old = []byte(value), api.Sum{1, 2, 3}
		return c
	}
	for _, c := range []struct {
		c    api.Change
		want api.Errno
	}{
		{set(key, value), api.OK}, {set("", ""), api.OK}, {api.Change{}, api.OK}, {swap(key, "x", value), api.OK}, {swap("", "", ""), api.OK}, {remove(key), api.OK}, {remove(""), api.OK},
		{withValue(remove("a"), value+"v"), api.OK}, {withValue(remove(key), long), api.OK}, {withValue(set(key, ""), value), api.OK},
		{set(key+"k", value), api.ErrLong}, {swap(key+"k", "x", value), api.ErrLong}, {remove(key + "k"), api.ErrLong}, {set(long, ""), api.ErrLong}, {remove(long), api.ErrLong},
		{set(key, value+"v"), api.ErrLong}, {swap(key, "x", value+"v"), api.ErrLong}, {set("", long), api.ErrLong}, {withValue(remove(key+"k"), long), api.ErrLong},
		{api.Change{Kind: 3}, api.ErrRange}, {api.Change{Kind: -1}, api.ErrRange}, {api.Change{Kind: 256}, api.ErrRange}, {api.Change{Kind: 257}, api.ErrRange}, {api.Change{Kind: math.MinInt}, api.ErrRange}, {api.Change{Kind: math.MaxInt, Key: []byte(long), Value: []byte(long)}, api.ErrRange},
	} {
		d := &tape{}
		x := opened(t, d)
		d.askedFor()
		err := x.Queue(c.c)
		what := fmt.Sprintf("a change of kind %d, a key of %d bytes, a value of %d", c.c.Kind, len(c.c.Key), len(c.c.Value))
		if api.Tell(err) != c.want || c.want != api.OK && !isFailed(err, "Queue", c.want) {
			t.Errorf("P13: Queue of %s: %v, want %d", what, err, c.want)
		}
		if c.want != api.OK {
			if asked := d.askedFor(); asked != "" || x.Waiting() != 0 {
				t.Errorf("P13: Queue of %s: the disk was asked %q, %d wait", what, asked, x.Waiting())
			}
			continue
		}
		var b refBook
		b.queue(c.c)
		if string(d.data) != b.disk {
			t.Errorf("P12: Queue of %s: the disk has %x, want %x", what, d.data, b.disk)
		}
		take(t, x, &b, sequences(1), publishes(1))
		checkBook(t, what, x, b)
		checkBook(t, what+", opened again", again(t, b.disk), b)
	}
}

// TestNone: P13, P14: where nothing waits, and where all is known, 0 is told and nothing is written; numbers below 1 may not be.
func TestNone(t *testing.T) {
	d, x, b := lived(t, queues(set("a", "1")), queues(set("b", "2")))
	for _, n := range []int{1, 2, math.MaxInt} {
		take(t, x, &b, publishes(n))
	}
	take(t, x, &b, sequences(math.MaxInt), publishes(3))
	asked := d.askedFor()
	if want := fmt.Sprintf("Append 13, Sync %d, Append 77, Sync %d", len(d.data)-77, len(d.data)); asked != want {
		t.Errorf("P13: the disk was asked %q, want %q", asked, want)
	}
	for _, n := range []int{1, 2, math.MaxInt} {
		take(t, x, &b, sequences(n), publishes(n))
	}
	for _, n := range edges {
		if n >= 1 {
			continue
		}
		if k, err := x.Sequence(n); k != 0 || !isFailed(err, "Sequence", api.ErrRange) {
			t.Errorf("P13: Sequence(%d): %d, %v", n, k, err)
		}
		if k, err := x.Publish(n); k != 0 || !isFailed(err, "Publish", api.ErrRange) {
			t.Errorf("P14: Publish(%d): %d, %v", n, k, err)
		}
	}
	if asked := d.askedFor(); asked != "" {
		t.Errorf("P13: where there is nothing to be done the disk was asked %q", asked)
	}
	checkBook(t, "nothing more", x, b)
}

// TestWritten: P13, one Append of the whole frame and one Sync for each step that does something, and nothing else.
func TestWritten(t *testing.T) {
	d := &tape{}
	x := opened(t, d)
	if asked := d.askedFor(); asked != "Bytes" {
		t.Errorf("P12: Open asked %q", asked)
	}
	var b refBook
	for _, s := range aLife() {
		was := len(d.data)
		take(t, x, &b, s)
		if asked, want := d.askedFor(), fmt.Sprintf("Append %d, Sync %d", len(d.data)-was, len(d.data)); asked != want || len(d.data) == was {
			t.Errorf("P13: %s: the disk was asked %q, want %q", s.what, asked, want)
		}
	}
	everything(x, lifeKeys)
	if asked := d.askedFor(); asked != "" {
		t.Errorf("P15: whoever is told something, the disk is asked %q", asked)
	}
}

// TestTellEdges: P15, the numbers that may not be, and what comes with the error.
func TestTellEdges(t *testing.T) {
	_, x, b := lived(t, aLife()...)
	for _, k := range append([]int{len(b.records) - 1, len(b.records)}, edges...) {
		r, err := x.Record(k)
		if k >= 0 && k < len(b.records) {
			if err != nil || r != b.records[k] {
				t.Errorf("P15: Record(%d): %v, %v", k, r, err)
			}
		} else if r != (api.Record{}) || !isFailed(err, "Record", api.ErrRange) {
			t.Errorf("P15: Record(%d): %v, %v", k, r, err)
		}
		a, err := x.Get([]byte("a"), k)
		if k >= -1 && k < len(b.records) {
			if err != nil || a.Record != k {
				t.Errorf("P15: Get of record %d: %v, %v", k, a, err)
			}
		} else if !reflect.DeepEqual(a, api.Answer{Record: -1}) || !isFailed(err, "Get", api.ErrRange) {
			t.Errorf("P1, P15: Get of record %d: %v, %v", k, a, err)
		}
	}
	count := len(b.order)
	for _, m := range append([]int{count - 1, count, count + 1}, edges...) {
		for _, n := range append([]int{count - 1, count, count + 1}, edges...) {
			p, err := x.Path(m, n)
			if ok := m >= 0 && m < n && n <= count; ok != (err == nil) || !ok && (p != nil || !isFailed(err, "Path", api.ErrRange)) {
				t.Errorf("P15: Path(%d, %d): %v, %v", m, n, p, err)
			}
			p, err = x.Between(m, n)
			if ok := m >= 0 && m <= n && n <= count; ok != (err == nil) || !ok && (p != nil || !isFailed(err, "Between", api.ErrRange)) {
				t.Errorf("P15: Between(%d, %d): %v, %v", m, n, p, err)
			}
		}
	}
}

// TestGetEdges: P15, an empty value is a value, a key that is too long for a change is not there, nor is what only waits or has but its place.
func TestGetEdges(t *testing.T) {
	_, x, _ := lived(t, queues(set("a", "")), sequences(1), publishes(1), queues(set("b", "1")), queues(set("c", "1")), sequences(1))
	if a, err := x.Get([]byte("a"), 0); !a.Present || len(a.Value) != 0 || err != nil {
		t.Errorf("P15: an empty value: %v, %v", a, err)
	}
	for _, key := range [][]byte{[]byte("b"), []byte("c"), nil, {}, bytes.Repeat([]byte("a"), 21), make([]byte, 1<<16)} {
		for k := -1; k <= 0; k++ {
			if a, err := x.Get(key, k); a.Present || a.Value != nil || a.Record != k || err != nil {
				t.Errorf("P15: a key of %d bytes at record %d: %v, %v", len(key), k, a, err)
			}
		}
	}
	if a, err := x.Get([]byte("a"), -1); !reflect.DeepEqual(a, api.Answer{Record: -1}) || err != nil {
		t.Errorf("P15: record -1: %v, %v", a, err)
	}
}

// TestGreatLedger: many changes that get their places at once, each made known by a record of its own; and all of them opened again.
func TestGreatLedger(t *testing.T) {
	const count = 3000
	d := plain.NewDisk(nil, 1<<22)
	x := opened(t, d)
	var leaves [][]byte
	for i := range count {
		c := set(fmt.Sprint(i%100), fmt.Sprint(i))
		leaves = append(leaves, []byte(refChange(c)))
		if err := x.Queue(c); err != nil {
			t.Fatal(err)
		}
	}
	if n, err := x.Sequence(count); n != count || err != nil {
		t.Fatalf("P13: %d, %v", n, err)
	}
	for range count {
		if n, err := x.Publish(1); n != 1 || err != nil {
			t.Fatalf("P14: %d, %v", n, err)
		}
	}
	y := opened(t, d)
	h, r := y.Heads()
	if h != (api.Head{Size: count, Root: refRoot(leaves)}) || r.Size != count {
		t.Errorf("P15: the heads are %v, %v", h, r)
	}
	for _, k := range []int{0, 1, 999, count - 1} {
		got, err := y.Record(k)
		if err != nil || got.Size != k+1 || got.Log != refRoot(leaves[:k+1]) {
			t.Errorf("P11: record %d: %v, %v", k, got, err)
		}
		if a, _ := y.Get([]byte(fmt.Sprint(k%100)), k); string(a.Value) != fmt.Sprint(k) {
			t.Errorf("P15: record %d has %q", k, a.Value)
		}
	}
}

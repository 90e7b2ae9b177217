package roots_test

import (
	"bytes"
	"encoding/hex"
	"fmt"
	"math/rand"
	"slices"
	"strings"
	"testing"

	"roots/api"
	"roots/plain"
	"roots/roots"
)

// audits looks whether Audit takes bytes for what a ledger with these heads exports.
func audits(t *testing.T, what, bundle string, changes, records api.Head) {
	t.Helper()
	h, r, err := roots.Audit([]byte(bundle))
	if h != changes || r != records || err != nil {
		t.Errorf("P18: %s: %v, %v, %v, want %v, %v", what, h, r, err, changes, records)
	}
}

// noBundle looks whether Audit refuses bytes, and tells nothing else.
func noBundle(t *testing.T, what, bundle string) {
	t.Helper()
	h, r, err := roots.Audit([]byte(bundle))
	if !isFailed(err, "Audit", api.ErrBundle) {
		t.Errorf("P18: %s: %v", what, err)
	}
	if h != (api.Head{}) || r != (api.Head{}) {
		t.Errorf("P1: %s: %v, %v beside the error", what, h, r)
	}
}

// TestExportKnown: P17, P18: the document's bundle, and one that is written out.
func TestExportKnown(t *testing.T) {
	x := opened(t, &tape{})
	none := "e3b0c44298fc1c149afbf4c8996fb92427ae41e4649b934ca495991b7852b855"
	empty := "524231" + "00000000" + "00000000" + none + none
	if got := hex.EncodeToString(x.Export()); got != empty {
		t.Errorf("P17: an empty ledger exports %s", got)
	}
	head := api.Head{Root: roots.Hash(nil)}
	audits(t, "an empty ledger's bundle", string(x.Export()), head, head)
	var b refBook
	take(t, x, &b, queues(set("a", "1")), queues(remove("b")), queues(swap("a", "1", "")), queues(set("c", "waits")), sequences(3), publishes(1))
	r, old := b.records[0], roots.Hash([]byte("1"))
	h, k := b.heads()
	want := "RB1" + "\x00\x00\x00\x03" +
		"\x00\x07" + "\x00\x00\x01a\x00\x011" +
		"\x00\x04" + "\x01\x00\x01b" +
		"\x00\x26" + "\x02\x00\x01a\x00\x00" + string(old[:]) +
		"\x00\x00\x00\x01" + "\x00\x00\x00\x01" + string(r.Log[:]) + string(r.Map[:]) +
		string(h.Root[:]) + string(k.Root[:])
	if got := string(x.Export()); got != want {
		t.Errorf("P17: %x, want %x", got, want)
	}
	if shorts(r.Map) != "ac0793b7" {
		t.Errorf("P11: the map's root is %s", shorts(r.Map))
	}
	audits(t, "the bundle that is written out", want, h, k)
}

// TestExportLife: P17, P18: what is exported behind every step of a ledger's life, from it and from the same one opened again; a change that waits is not exported.
func TestExportLife(t *testing.T) {
	d := &tape{}
	x := opened(t, d)
	var b refBook
	for _, s := range aLife() {
		was := string(x.Export())
		take(t, x, &b, s)
		got := string(x.Export())
		if got != b.export() {
			t.Errorf("P17: %s: %x, want %x", s.what, got, b.export())
		}
		if waits := callOf(s) == "Queue"; waits != (got == was) {
			t.Errorf("P17: %s: the same is exported: %v", s.what, got == was)
		}
		if y := again(t, b.disk); string(y.Export()) != got {
			t.Errorf("P17: %s: the same ledger, opened again, exports other bytes", s.what)
		}
		h, r := x.Heads()
		audits(t, s.what, got, h, r)
		h, r = b.heads()
		audits(t, s.what, got, h, r)
	}
}

// TestExportMany: P17, P18 for many steps in any order.
func TestExportMany(t *testing.T) {
	for seed := range int64(8) {
		steps, _ := someSteps(rand.New(rand.NewSource(seed)), 20+10*int(seed))
		_, x, b := lived(t, steps...)
		got := string(x.Export())
		if got != b.export() || string(again(t, b.disk).Export()) != got {
			t.Errorf("P17: many steps: %x, want %x", got, b.export())
		}
		h, r := b.heads()
		audits(t, "many steps", got, h, r)
	}
}

// TestExportCuts: P17, by whatever cuts changes get their places, and whatever still waits: where the order and the records are the same, so are the bytes.
func TestExportCuts(t *testing.T) {
	changes, _ := someChanges(rand.New(rand.NewSource(17)), 12)
	var bundles []string
	for _, cut := range []int{1, 5, 12} {
		for _, waits := range []int{0, 1, 3} {
			_, x, b := lived(t)
			for _, c := range changes {
				take(t, x, &b, queues(c))
			}
			for len(b.waiting) > 0 {
				take(t, x, &b, sequences(cut))
			}
			for range waits {
				take(t, x, &b, queues(set("waits", "yes")))
			}
			take(t, x, &b, publishes(4), publishes(1), publishes(2))
			bundles = append(bundles, string(x.Export()))
		}
	}
	for _, s := range bundles {
		if s != bundles[0] {
			t.Errorf("P17: by another cut %x is exported, not %x", s, bundles[0])
		}
	}
}

// TestExportEdges: P17, P18: keys of 0 and 20 bytes, values of 0 and 40, of each kind; what says nothing is not exported; with no record, one, and one each.
func TestExportEdges(t *testing.T) {
	key, value := strings.Repeat("k", 20), strings.Repeat("v", 40)
	loud := remove(key)
	loud.Value, loud.Old = []byte(value+value), api.Sum{1}
	louder := set("a", "1")
	louder.Old = api.Sum{1}
	changes := []api.Change{
		{}, set(key, value), set(key, ""), set("", value), remove(""), remove(key), loud, louder,
		swap("", "", ""), swap(key, value, value), swap("", value, value), swap(key, "", ""), {Kind: api.Swap},
	}
	for _, records := range []int{0, 1, len(changes), len(changes) - 1} {
		for n := range len(changes) + 1 {
			_, x, b := lived(t)
			for _, c := range changes[:n] {
				take(t, x, &b, queues(c), sequences(1))
			}
			for range records {
				take(t, x, &b, publishes((n+records)/max(records, 1)))
			}
			what := fmt.Sprintf("%d changes, up to %d records", n, records)
			if got := string(x.Export()); got != b.export() {
				t.Errorf("P17: %s: %x, want %x", what, got, b.export())
			}
			h, r := b.heads()
			audits(t, what, string(x.Export()), h, r)
		}
	}
	_, x, _ := lived(t, queues(loud), queues(louder), queues(swap(key, "1", value)), sequences(3))
	if got := x.Export(); len(got) != 7+(2+23)+(2+7)+(2+97)+4+64 || bytes.Contains(got, loud.Old[:]) {
		t.Errorf("P17: what says nothing is exported: %x", got)
	}
}

// TestExportDead: P13, P17: a ledger whose disk is full or broken exports what it knows, without asking the disk, and so does one that was not opened.
func TestExportDead(t *testing.T) {
	for at, s := range aLife() {
		for _, answer := range []func(string) int{answering("Append", 1), answering("Append", 2), answering("Sync", 1)} {
			d, x, b := lived(t, aLife()[:at]...)
			d.answer = answer
			if _, err := s.do(x); err == nil {
				t.Fatalf("P13: %s: no error", s.what)
			}
			d.askedFor()
			if got := string(x.Export()); got != b.export() || d.askedFor() != "" {
				t.Errorf("P17: %s failed: %x, want %x", s.what, got, b.export())
			}
		}
	}
	var none *roots.Ledger
	for _, x := range []*roots.Ledger{none, {}} {
		if got := string(x.Export()); got != new(refBook).export() {
			t.Errorf("P1, P17: a ledger that was not opened exports %x", got)
		}
	}
}

// queuedMany is a ledger in which so many changes have their places, and these as bytes.
func queuedMany(t *testing.T, count int) (x *roots.Ledger, texts []string) {
	t.Helper()
	x = opened(t, plain.NewDisk(nil, 1<<22))
	for i := range count {
		c := set(fmt.Sprint(i%90), fmt.Sprint(i))
		texts = append(texts, refChange(c))
		if err := x.Queue(c); err != nil {
			t.Fatal(err)
		}
	}
	if n, err := x.Sequence(count); n != count || err != nil {
		t.Fatalf("P13: %d, %v", n, err)
	}
	return x, texts
}

// TestExportGreat: P17, P18: numbers of changes and of records that have more than one byte.
func TestExportGreat(t *testing.T) {
	for _, c := range []struct{ changes, records int }{{700, 300}, {1<<16 + 5, 1}} {
		x, texts := queuedMany(t, c.changes)
		var records []api.Record
		for k := range c.records {
			if n, err := x.Publish(1); n != 1 || err != nil {
				t.Fatalf("P14: %d, %v", n, err)
			}
			r, _ := x.Record(k)
			records = append(records, r)
		}
		got := string(x.Export())
		if want := refBundleOf(texts, records).bytes(); got != want {
			t.Errorf("P17: a ledger of %d changes exports %d other bytes than the %d", c.changes, len(got), len(want))
		}
		h, r := x.Heads()
		if h.Size != c.changes || r.Size != c.records {
			t.Errorf("P15: the heads are of %d and %d, not %d and %d", h.Size, r.Size, c.changes, c.records)
		}
		audits(t, fmt.Sprint("changes: ", c.changes), got, h, r)
	}
}

// TestExportNewMemory: P1, what is exported is new memory, spare room too, and stays as it was whatever the ledger does then.
func TestExportNewMemory(t *testing.T) {
	for at := range len(aLife()) + 1 {
		_, x, b := lived(t, aLife()[:at]...)
		was := everything(x, lifeKeys)
		first, second := x.Export(), x.Export()
		room := slices.Clone(second[:cap(second)])
		scribble(first)
		if !bytes.Equal(second[:cap(second)], room) {
			t.Errorf("P1: behind %d steps two exports share memory", at)
		}
		if everything(x, lifeKeys) != was {
			t.Errorf("P1: behind %d steps the ledger changes with what it exported", at)
		}
		take(t, x, &b, aLife()[at:]...)
		take(t, x, &b, sequences(9), publishes(9))
		if !bytes.Equal(second[:cap(second)], room) {
			t.Errorf("P1: what was exported behind %d steps changes with the ledger", at)
		}
		checkBook(t, "what was exported is written into", x, b)
	}
}

// TestExportNotKept: P1, what is exported does not change with what was handed in to Queue, nor with the bytes that a disk told.
func TestExportNotKept(t *testing.T) {
	memory := []byte("keyvalue")
	_, x, b := lived(t)
	for kind := range 3 {
		c := api.Change{Kind: kind, Key: memory[:3], Value: memory[3:]}
		if err := x.Queue(c); err != nil {
			t.Fatal(err)
		}
		b.queue(api.Change{Kind: kind, Key: []byte("key"), Value: []byte("value")})
	}
	take(t, x, &b, sequences(2), publishes(1))
	scribble(memory)
	take(t, x, &b, sequences(1))
	if string(x.Export()) != b.export() {
		t.Errorf("P1: what is exported changes with what was handed in")
	}
	d := &tape{data: []byte(b.disk)}
	y := opened(t, d)
	scribble(d.data)
	if string(y.Export()) != b.export() {
		t.Errorf("P1: what is exported changes with what the disk told")
	}
}

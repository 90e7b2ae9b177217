package roots_test

import (
	"bytes"
	"fmt"
	"math"
	"slices"
	"strings"
	"testing"

	"roots/api"
	"roots/plain"
	"roots/roots"
)

// scribble writes into all of a piece of memory, its spare room too.
func scribble(b []byte) {
	b = b[:cap(b)]
	for i := range b {
		b[i] ^= 255
	}
}

// TestQueueOwned: P1, a change is neither written into nor kept, while it waits, when it has its place, and when it is known.
func TestQueueOwned(t *testing.T) {
	for stage := range 3 {
		for kind := range 3 {
			d, x, b := lived(t, queues(set("key", "old")))
			memory := []byte("keyvalue and more")
			c := api.Change{Kind: kind, Key: memory[:3], Value: memory[3:8], Old: roots.Hash([]byte("old"))}
			if err := x.Queue(c); err != nil {
				t.Fatal(err)
			}
			b.queue(api.Change{Kind: kind, Key: []byte("key"), Value: []byte("value"), Old: c.Old})
			if string(memory) != "keyvalue and more" {
				t.Errorf("P1: a change of kind %d is written into: %q", kind, memory)
			}
			for i, s := range []step{sequences(9), publishes(9)} {
				if i == stage {
					scribble(memory)
				}
				take(t, x, &b, s)
			}
			if stage == 2 {
				scribble(memory)
			}
			what := fmt.Sprintf("kind %d, written into at stage %d", kind, stage)
			checkBook(t, what, x, b)
			checkGets(t, x, b, []string{"key", "x"})
			if string(d.data) != b.disk {
				t.Errorf("P1: %s: the disk has %x, want %x", what, d.data, b.disk)
			}
		}
	}
}

// TestGetOwned: P1, a key is neither written into nor kept.
func TestGetOwned(t *testing.T) {
	_, x, b := lived(t, aLife()...)
	memory := []byte("abc")
	was, err := x.Get(memory[:1], 0)
	if err != nil || string(memory) != "abc" {
		t.Errorf("P1: a key is written into: %q, %v", memory, err)
	}
	old := fmt.Sprint(was)
	scribble(memory)
	if fmt.Sprint(was) != old {
		t.Errorf("P1: the answer changes with the key")
	}
	checkGets(t, x, b, lifeKeys)
}

// greedy is a disk that keeps the memory that it gets.
type greedy struct {
	tape
	got [][]byte
}

func (d *greedy) Append(b []byte) int {
	d.got = append(d.got, b)
	return d.tape.Append(b)
}

// TestDiskOwned: P1, the bytes of a disk are neither written into nor kept, and what a disk gets is its own.
func TestDiskOwned(t *testing.T) {
	_, _, b := lived(t, aLife()...)
	all := []byte(b.disk + "torn, and room behind it")
	memory := bytes.Clone(all)
	x := opened(t, &tape{data: memory[:len(b.disk)+4]})
	if !bytes.Equal(memory, all) {
		t.Errorf("P1: the bytes of the disk are written into")
	}
	was := everything(x, lifeKeys)
	scribble(memory)
	if everything(x, lifeKeys) != was {
		t.Errorf("P1: the ledger changes with the bytes that the disk told")
	}
	take(t, x, &b, sequences(9), publishes(9))
	checkBook(t, "the disk's bytes are written into", x, b)

	d := &greedy{}
	x = opened(t, d)
	b = refBook{}
	for _, s := range aLife() {
		take(t, x, &b, s)
		for _, got := range d.got {
			scribble(got)
		}
		d.got = nil
	}
	checkBook(t, "what the disk got is written into", x, b)
	checkGets(t, x, b, lifeKeys)

	d = &greedy{}
	x = opened(t, d)
	b = refBook{}
	take(t, x, &b, aLife()...)
	if all := string(slices.Concat(d.got...)); all != b.disk {
		t.Errorf("P1: what the disk got was written into: %x, want %x", all, b.disk)
	}
}

// TestLedgerNewMemory: P1, what a ledger tells may be written into, spare room too: it tells the same again, and no other answer changes.
func TestLedgerNewMemory(t *testing.T) {
	_, x, b := lived(t, aLife()...)
	was := everything(x, lifeKeys)
	spoil := func(l []api.Sum) {
		l = l[:cap(l)]
		for i := range l {
			l[i] = api.Sum{9, 9, 9}
		}
	}
	for k := -1; k < len(b.records); k++ {
		for _, key := range lifeKeys {
			first, _ := x.Get([]byte(key), k)
			second, _ := x.Get([]byte(key), k)
			old := fmt.Sprint(second)
			scribble(first.Value)
			spoil(first.Proof.Path)
			if fmt.Sprint(second) != old {
				t.Errorf("P1: two answers of Get(%q, %d) share memory", key, k)
			}
		}
	}
	for n := range len(b.order) + 1 {
		for m := range n + 1 {
			for _, ask := range []func(int, int) ([]api.Sum, error){x.Path, x.Between} {
				first, _ := ask(m, n)
				second, _ := ask(m, n)
				old := slices.Clone(second)
				spoil(first)
				if !slices.Equal(second, old) {
					t.Errorf("P1: two answers for %d, %d share memory", m, n)
				}
			}
		}
	}
	if everything(x, lifeKeys) != was {
		t.Errorf("P1: what the ledger tells changes with what it told")
	}
	take(t, x, &b, sequences(9), publishes(9))
	checkBook(t, "what was told is written into", x, b)
}

// TestKeptAnswers: P1, what was told stays as it was, whatever the ledger does then.
func TestKeptAnswers(t *testing.T) {
	_, x, b := lived(t, aLife()[:9]...)
	var kept []func() string
	keep := func(v any) { kept = append(kept, func() string { return fmt.Sprint(v) }) }
	for _, key := range lifeKeys {
		a, _ := x.Get([]byte(key), 0)
		keep(a)
	}
	for m := range 3 {
		p, _ := x.Path(m, 3)
		q, _ := x.Between(m, 3)
		keep(p)
		keep(q)
	}
	var old []string
	for _, f := range kept {
		old = append(old, f())
	}
	take(t, x, &b, aLife()...)
	for i, f := range kept {
		if f() != old[i] {
			t.Errorf("P1: an answer changes: %s, want %s", f(), old[i])
		}
	}
}

// TestNoLedger: P1, a ledger that was not opened has nothing, and its disk is as a broken one; no call panics.
func TestNoLedger(t *testing.T) {
	for what, x := range map[string]*roots.Ledger{"none": nil, "zero": {}} {
		checkBook(t, what, x, refBook{})
		checkDead(t, x)
		checkGets(t, x, refBook{}, []string{"a", ""})
		for _, m := range edges {
			if a, err := x.Get([]byte("a"), m); m != -1 && (a.Record != -1 || !isFailed(err, "Get", api.ErrRange)) {
				t.Errorf("P1: %s: Get at %d: %v, %v", what, m, a, err)
			}
			if _, err := x.Record(m); !isFailed(err, "Record", api.ErrRange) {
				t.Errorf("P1: %s: Record(%d): %v", what, m, err)
			}
			for _, n := range edges {
				if p, err := x.Path(m, n); p != nil || !isFailed(err, "Path", api.ErrRange) {
					t.Errorf("P1: %s: Path(%d, %d): %v, %v", what, m, n, p, err)
				}
				if p, err := x.Between(m, n); p != nil || (err == nil) != (m == 0 && n == 0) {
					t.Errorf("P1: %s: Between(%d, %d): %v, %v", what, m, n, p, err)
				}
			}
		}
	}
}

// bad is a disk that panics at one call.
type bad struct {
	tape
	at string
}

func (d *bad) fall(call string) {
	if d.at == call {
		panic(call)
	}
}

func (d *bad) Bytes() []byte       { d.fall("Bytes"); return d.tape.Bytes() }
func (d *bad) Append(b []byte) int { d.fall("Append"); return d.tape.Append(b) }
func (d *bad) Sync() bool          { d.fall("Sync"); return d.tape.Sync() }
func (d *bad) Cut(n int) bool      { d.fall("Cut"); return d.tape.Cut(n) }

// TestBadDisk: P1, a disk that is none, or that panics, is as a broken one.
func TestBadDisk(t *testing.T) {
	torn := tape{data: []byte("torn")}
	for what, d := range map[string]api.Disk{"no disk": nil, "a disk of nil": (*plain.Disk)(nil), "a panic at Bytes": &bad{at: "Bytes"}, "a panic at Cut": &bad{tape: torn, at: "Cut"}} {
		if x, err := roots.Open(d); x != nil || !isFailed(err, "Open", api.ErrDead) {
			t.Errorf("P1: %s: %v, %v", what, x, err)
		}
	}
	for _, at := range []string{"Append", "Sync"} {
		for _, s := range []step{queues(set("b", "2")), sequences(1), publishes(1)} {
			d := &bad{}
			x := opened(t, d)
			var b refBook
			take(t, x, &b, queues(set("a", "1")), queues(set("a", "2")), sequences(1))
			d.at = at
			failsWith(t, x, s, api.ErrDead)
			checkDead(t, x)
			checkBook(t, "a panic at "+at, x, b)
		}
	}
}

// caller is a disk that calls the ledger while it is asked.
type caller struct {
	tape
	x    *roots.Ledger
	told []string
}

func (d *caller) call(from string) {
	if d.x == nil {
		return
	}
	e := api.Tell(d.x.Queue(set("c", "c")))
	n, f := d.x.Sequence(9)
	k, g := d.x.Publish(9)
	d.told = append(d.told, fmt.Sprint(from, " ", int(e), n, int(api.Tell(f)), k, int(api.Tell(g)), d.x.Waiting()))
}

func (d *caller) Append(b []byte) int { d.call("Append"); return d.tape.Append(b) }
func (d *caller) Sync() bool          { d.call("Sync"); return d.tape.Sync() }

// TestCallingDisk: P1, a disk that calls the ledger meanwhile changes nothing, and nothing panics.
func TestCallingDisk(t *testing.T) {
	d := &caller{}
	d.x = opened(t, d)
	var b refBook
	take(t, d.x, &b, aLife()...)
	checkBook(t, "a disk that calls", d.x, b)
	if string(d.data) != b.disk {
		t.Errorf("P1: the disk has %x, want %x", d.data, b.disk)
	}
	if len(d.told) != 2*len(aLife()) || d.told[0] != "Append 4 0 4 0 4 0" {
		t.Errorf("P1: the disk was told %q", d.told)
	}
}

// TestLedgerEnds: P1, no call panics or goes on for ever, at all edges, with a ledger that is alive, full and dead.
func TestLedgerEnds(t *testing.T) {
	for _, answer := range []func(string) int{nil, answering("Append", 1), answering("Append", 2), answering("Sync", 1)} {
		d, x, _ := lived(t, aLife()...)
		d.answer = answer
		for _, n := range edges {
			x.Sequence(n)
			x.Publish(n)
			for _, text := range []string{"", strings.Repeat("x", 20), strings.Repeat("x", 21), strings.Repeat("x", 41), string(make([]byte, 1<<17))} {
				x.Queue(api.Change{Kind: n, Key: []byte(text), Value: []byte(text)})
				x.Queue(api.Change{Kind: n, Value: []byte(text)})
			}
			x.Queue(api.Change{Kind: n})
		}
		if x.Sequence(math.MaxInt); answer == nil && x.Waiting() != 0 {
			t.Errorf("P13: %d wait", x.Waiting())
		}
		opened(t, &tape{data: d.data})
	}
}

// FuzzOpen: P1, P12, whatever bytes a disk has: Open ends, does not panic, and takes a disk that it has cut as it is.
func FuzzOpen(f *testing.F) {
	frames, books := lifeFrames()
	for i := range frames {
		f.Add([]byte(books[i].disk))
		f.Add([]byte(books[i].disk + refFrame("X")))
	}
	f.Fuzz(func(t *testing.T, b []byte) {
		d := &tape{data: bytes.Clone(b)}
		x, err := roots.Open(d)
		if err != nil {
			if x != nil || !isFailed(err, "Open", api.ErrDisk) || !bytes.Equal(d.data, b) {
				t.Fatalf("P12: %v, %v", x, err)
			}
			return
		}
		if !bytes.HasPrefix(b, d.data) {
			t.Fatalf("P12: the disk has other bytes than it had")
		}
		d.askedFor()
		if y := opened(t, d); d.askedFor() != "Bytes" || y.Waiting() != x.Waiting() {
			t.Fatalf("P12: another ledger when it is opened again")
		}
	})
}

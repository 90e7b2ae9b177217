package roots_test

import (
	"fmt"
	"slices"
	"strings"
	"testing"

	"roots/api"
	"roots/plain"
	"roots/roots"
)

// tape is a disk that writes down what it is asked, and answers as it is told. It hands out its own memory, and keeps none of what it gets.
type tape struct {
	data   []byte
	asked  []string
	answer func(call string) int // to Append, Sync and Cut; 0, where it is nil
}

func (d *tape) ask(call string, n int) int {
	d.asked = append(d.asked, fmt.Sprintf("%s %d", call, n))
	if d.answer == nil {
		return 0
	}
	return d.answer(call)
}

func (d *tape) Bytes() []byte {
	d.asked = append(d.asked, "Bytes")
	return d.data
}

func (d *tape) Append(b []byte) int {
	n := d.ask("Append", len(b))
	if n == 0 {
		d.data = append(d.data, b...)
	}
	return n
}

func (d *tape) Sync() bool { return d.ask("Sync", len(d.data)) == 0 }

func (d *tape) Cut(n int) bool {
	if d.ask("Cut", n) != 0 {
		return false
	}
	d.data = d.data[:n]
	return true
}

// askedFor tells what the tape was asked since it was asked for that last.
func (d *tape) askedFor() string {
	s := strings.Join(d.asked, ", ")
	d.asked = nil
	return s
}

// answering lets a tape answer n to one call, and 0 to all others.
func answering(call string, n int) func(string) int {
	return func(c string) int {
		if c == call {
			return n
		}
		return 0
	}
}

// opened is the ledger of a disk.
func opened(t *testing.T, d api.Disk) *roots.Ledger {
	t.Helper()
	x, err := roots.Open(d)
	if x == nil || err != nil {
		t.Fatalf("P12: Open: %v, %v", x, err)
	}
	return x
}

// step is a call that is written, and the same by the other way. It tells how many (of Queue 0).
type step struct {
	what string
	do   func(x *roots.Ledger) (int, error)
	ref  func(b *refBook) int
}

func queues(c api.Change) step {
	return step{
		fmt.Sprintf("Queue(%d %q %q)", c.Kind, c.Key, c.Value),
		func(x *roots.Ledger) (int, error) { return 0, x.Queue(c) },
		func(b *refBook) int { b.queue(c); return 0 },
	}
}

func sequences(n int) step {
	return step{
		fmt.Sprintf("Sequence(%d)", n),
		func(x *roots.Ledger) (int, error) { return x.Sequence(n) },
		func(b *refBook) int { return b.sequence(n) },
	}
}

func publishes(n int) step {
	return step{
		fmt.Sprintf("Publish(%d)", n),
		func(x *roots.Ledger) (int, error) { return x.Publish(n) },
		func(b *refBook) int { return b.publish(n) },
	}
}

// take does a step with a ledger and by the other way, and holds them against each other.
func take(t *testing.T, x *roots.Ledger, b *refBook, steps ...step) {
	t.Helper()
	for _, s := range steps {
		want := s.ref(b)
		if n, err := s.do(x); n != want || err != nil {
			t.Fatalf("P13, P14: %s: %d, %v, want %d", s.what, n, err, want)
		}
	}
}

// aLife is a ledger's: changes of each kind, two of them at one place, that wait, get their places and are made known by different cuts, and some that still wait.
func aLife() []step {
	return []step{
		queues(set("a", "1")), queues(set("b", "2")), sequences(1), publishes(1),
		queues(swap("a", "1", "3")), queues(remove("b")), queues(set(oneOfTwo, "4")), sequences(3), publishes(2), sequences(9), publishes(1 << 40),
		queues(set(otherOfTwo, "5")), queues(swap("a", "1", "6")), queues(set("", "")), sequences(2), publishes(1),
		queues(remove("z")),
	}
}

// lifeKeys are the keys of aLife, and some that are not there.
var lifeKeys = []string{"a", "b", "", oneOfTwo, otherOfTwo, "z", "no"}

// lived is the ledger of a tape after some steps, and the same by the other way.
func lived(t *testing.T, steps ...step) (*tape, *roots.Ledger, refBook) {
	t.Helper()
	d := &tape{}
	x := opened(t, d)
	var b refBook
	take(t, x, &b, steps...)
	d.askedFor()
	return d, x, b
}

// again is the ledger of the bytes that a disk has, on a disk of its own.
func again(t *testing.T, disk string) *roots.Ledger {
	t.Helper()
	return opened(t, plain.NewDisk([]byte(disk), len(disk)))
}

// TestTape: the disk of these tests does what it is said to.
func TestTape(t *testing.T) {
	d := &tape{answer: answering("Append", 1)}
	if d.Append([]byte("abc")) != 1 || len(d.Bytes()) != 0 {
		t.Errorf("there is no room, and something is done")
	}
	d.answer = nil
	if d.Append([]byte("abc")) != 0 || !d.Sync() || !d.Cut(2) || string(d.Bytes()) != "ab" {
		t.Errorf("it has %q", d.data)
	}
	d.answer = answering("Cut", 1)
	if d.Cut(1) || string(d.Bytes()) != "ab" {
		t.Errorf("it has %q", d.data)
	}
	want := []string{"Append 3", "Bytes", "Append 3", "Sync 3", "Cut 2", "Bytes", "Cut 1", "Bytes"}
	if !slices.Equal(d.asked, want) {
		t.Errorf("it was asked %v, want %v", d.asked, want)
	}
}

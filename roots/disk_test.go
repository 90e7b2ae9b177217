package roots_test

import (
	"fmt"
	"math"
	"testing"

	"roots/api"
	"roots/plain"
	"roots/roots"
)

// callOf is the name of the call that a step is of.
func callOf(s step) string {
	for i, r := range s.what {
		if r == '(' {
			return s.what[:i]
		}
	}
	return s.what
}

// failsWith does a step that must fail, and holds what the ledger tells against what it told ahead of it.
func failsWith(t *testing.T, x *roots.Ledger, s step, want api.Errno) {
	t.Helper()
	was := everything(x, lifeKeys)
	if n, err := s.do(x); n != 0 || !isFailed(err, callOf(s), want) {
		t.Errorf("P13: %s: %d, %v, want error %d", s.what, n, err, want)
	}
	if everything(x, lifeKeys) != was {
		t.Errorf("P13: %s: it failed, and something has happened", s.what)
	}
}

// TestFull: P13, where there is no room nothing has happened, nothing is synced, and the ledger goes on when there is room.
func TestFull(t *testing.T) {
	d := &tape{}
	x := opened(t, d)
	var b refBook
	for _, s := range aLife() {
		d.askedFor()
		d.answer = answering("Append", 1)
		for range 2 {
			failsWith(t, x, s, api.ErrFull)
			if asked := d.askedFor(); asked != fmt.Sprintf("Append %d", s.length(b)) {
				t.Errorf("P13: %s: the disk was asked %q", s.what, asked)
			}
		}
		d.answer = nil
		take(t, x, &b, s)
		checkBook(t, s.what, x, b)
	}
	if string(d.data) != b.disk {
		t.Errorf("P13: the disk has %x, want %x", d.data, b.disk)
	}
}

// length is how long the frame of a step is, where it is done with b.
func (s step) length(b refBook) int {
	was := len(b.disk)
	s.ref(&b)
	return len(b.disk) - was
}

// TestFullSmall: P13, disks of every small size: all that was told to be done fits, and is there.
func TestFullSmall(t *testing.T) {
	for room := range 300 {
		d := plain.NewDisk(nil, room)
		x := opened(t, d)
		var b refBook
		for _, s := range aLife() {
			next := b
			want := s.ref(&next)
			n, err := s.do(x)
			if fits := len(next.disk) <= room; !fits && (n != 0 || api.Tell(err) != api.ErrFull) || fits && (n != want || err != nil) {
				t.Fatalf("P13: room for %d: %s: %d, %v", room, s.what, n, err)
			} else if fits {
				b = next
			}
		}
		if string(d.Bytes()) != b.disk {
			t.Fatalf("P13: room for %d: the disk has %x, want %x", room, d.Bytes(), b.disk)
		}
		checkBook(t, fmt.Sprint("room for ", room), x, b)
		checkBook(t, fmt.Sprint("room for ", room, ", opened again"), again(t, b.disk), b)
	}
}

// TestBroken: P13, every step of a life with a disk that breaks at Append or at Sync: nothing has happened, and the ledger is dead.
func TestBroken(t *testing.T) {
	life := aLife()
	for at, s := range life {
		for _, answer := range []func(string) int{answering("Append", 2), answering("Append", 3), answering("Append", -1), answering("Append", math.MaxInt), answering("Sync", 1)} {
			d, x, b := lived(t, life[:at]...)
			want := fmt.Sprintf("Append %d", s.length(b))
			if answer("Sync") != 0 {
				want += fmt.Sprintf(", Sync %d", len(b.disk)+s.length(b))
			}
			d.answer = answer
			failsWith(t, x, s, api.ErrDead)
			if asked := d.askedFor(); asked != want {
				t.Errorf("P13: %s: the disk was asked %q, want %q", s.what, asked, want)
			}
			d.answer = nil
			checkDead(t, x)
			if asked := d.askedFor(); asked != "" {
				t.Errorf("P13: a dead ledger asks its disk %q", asked)
			}
			checkBook(t, "dead", x, b)
			checkPaths(t, x, b)
		}
	}
}

// checkDead looks whether a ledger is dead: what may not be is refused as ever, all else is ErrDead, also where nothing were to be done.
func checkDead(t *testing.T, x *roots.Ledger) {
	t.Helper()
	long := set(string(make([]byte, 21)), "")
	for _, c := range []struct {
		s    step
		want api.Errno
	}{
		{queues(set("k", "v")), api.ErrDead}, {queues(remove("k")), api.ErrDead}, {queues(swap("k", "x", "y")), api.ErrDead},
		{queues(api.Change{Kind: 3}), api.ErrRange}, {queues(long), api.ErrLong},
		{sequences(1), api.ErrDead}, {sequences(math.MaxInt), api.ErrDead}, {sequences(0), api.ErrRange}, {sequences(-1), api.ErrRange},
		{publishes(1), api.ErrDead}, {publishes(math.MaxInt), api.ErrDead}, {publishes(0), api.ErrRange}, {publishes(-1), api.ErrRange},
	} {
		failsWith(t, x, c.s, c.want)
	}
}

// TestDeadIdle: P13, a dead ledger in which nothing waits and all is known is dead, too.
func TestDeadIdle(t *testing.T) {
	d, x, _ := lived(t, queues(set("a", "1")), sequences(1), publishes(1))
	d.answer = answering("Sync", 1)
	failsWith(t, x, queues(set("b", "2")), api.ErrDead)
	checkDead(t, x)
}

// TestLasts: P16, a disk that breaks behind any number of calls, and then loses all or all but the first bytes of what was not synced: what was told to be done is there, and no more than the step that failed; and so it is again when the ledger goes on.
func TestLasts(t *testing.T) {
	life := aLife()
	for calls := range 2*len(life) + 1 {
		d := plain.NewDisk(nil, 1<<20)
		x := opened(t, d)
		d.Break(calls)
		var b, more refBook
		for _, s := range life {
			more = b
			want := s.ref(&more)
			n, err := s.do(x)
			if err != nil {
				if !isFailed(err, callOf(s), api.ErrDead) || n != 0 {
					t.Fatalf("P13: broken behind %d calls: %s: %d, %v", calls, s.what, n, err)
				}
				break
			}
			if n != want {
				t.Fatalf("P13: %s: %d, want %d", s.what, n, want)
			}
			b = more
		}
		if string(d.Bytes()[:d.Synced()]) != b.disk {
			t.Fatalf("P16: broken behind %d calls: %d bytes stay, want %d", calls, d.Synced(), len(b.disk))
		}
		for keep := range len(d.Bytes()) - d.Synced() + 1 {
			checkLasts(t, d.Crash(keep), b, more)
		}
	}
}

// checkLasts opens a disk after a crash: it has b, or (if all of one frame more came through) more. Then the ledger goes on, and all is there again.
func checkLasts(t *testing.T, d *plain.Disk, b, more refBook) {
	t.Helper()
	what := fmt.Sprintf("after a crash, %d bytes of %d and %d", len(d.Bytes()), len(b.disk), len(more.disk))
	if len(d.Bytes()) == len(more.disk) {
		b = more
	}
	x := opened(t, d)
	checkBook(t, what, x, b)
	if string(d.Bytes()) != b.disk {
		t.Errorf("P12: %s: the disk has %x, want %x", what, d.Bytes(), b.disk)
	}
	take(t, x, &b, queues(set("more", "1")), sequences(2), publishes(1))
	checkBook(t, what+", then more", opened(t, d.Crash(0)), b)
}

// TestLastsTwice: P16, crash behind crash: each ledger finds what the one ahead of it told to be done.
func TestLastsTwice(t *testing.T) {
	d := plain.NewDisk(nil, 1<<20)
	var b refBook
	for i, s := range append(aLife(), aLife()...) {
		x := opened(t, d)
		take(t, x, &b, s)
		torn := b
		queues(set("torn", "off")).ref(&torn)
		d = plain.NewDisk([]byte(torn.disk[:len(torn.disk)-1-i%20]), 1<<20)
	}
	checkBook(t, "crash behind crash", opened(t, d), b)
}

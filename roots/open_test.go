package roots_test

import (
	"fmt"
	"strings"
	"testing"

	"roots/api"
	"roots/roots"
)

// lifeFrames are the frames of a life, and the ledgers that the first of them make: one more than there are frames.
func lifeFrames() (frames []string, books []refBook) {
	var b refBook
	books = append(books, b)
	for _, s := range aLife() {
		was := len(b.disk)
		s.ref(&b)
		frames, books = append(frames, b.disk[was:]), append(books, b)
	}
	return frames, books
}

// opens opens a disk whose first bytes are those of b, and what is behind them is to be cut off, once.
func opens(t *testing.T, what, disk string, b refBook) {
	t.Helper()
	d := &tape{data: []byte(disk)}
	x := opened(t, d)
	want := "Bytes"
	if len(disk) > len(b.disk) {
		want += fmt.Sprintf(", Cut %d", len(b.disk))
	}
	if asked := d.askedFor(); asked != want || string(d.data) != b.disk {
		t.Errorf("P12: %s: the disk was asked %q, want %q, and has %d bytes of %d", what, asked, want, len(d.data), len(b.disk))
	}
	checkBook(t, what, x, b)
}

// TestOpenTorn: P12, a disk that ends anywhere: the frames that are whole are taken, and what is behind them is cut off.
func TestOpenTorn(t *testing.T) {
	frames, books := lifeFrames()
	for i, f := range frames {
		for n := range len(f) {
			opens(t, fmt.Sprintf("%d bytes of frame %d", n, i), books[i].disk+f[:n], books[i])
		}
	}
	opens(t, "all frames", books[len(frames)].disk, books[len(frames)])
}

// TestOpenWrong: P12, any byte of a frame that is wrong: the frames ahead of it are taken, and those behind it are not, though they are whole.
func TestOpenWrong(t *testing.T) {
	frames, books := lifeFrames()
	for i, f := range frames {
		for at := range len(f) {
			wrong := []byte(f)
			wrong[at] ^= 1 << (at % 8)
			what := fmt.Sprintf("frame %d with byte %d wrong", i, at)
			opens(t, what, books[i].disk+string(wrong), books[i])
			opens(t, what+", more behind it", books[i].disk+string(wrong)+strings.Join(frames[i+1:], ""), books[i])
			opens(t, what+", one that cannot be behind it", books[i].disk+string(wrong)+refFrame("X"), books[i])
		}
	}
}

// TestOpenLengths: P12, lengths that may not be, with all their bytes and a sum that is right, and those that are not there.
func TestOpenLengths(t *testing.T) {
	_, books := lifeFrames()
	b := books[7]
	for _, n := range []int{0, 201, 202, 255, 256, 456, 1 << 16} {
		opens(t, fmt.Sprint("a length of ", n), b.disk+refFrame(strings.Repeat("X", n)), b)
	}
	for _, n := range []int{0, 1, 200, 201, 1 << 8, 1 << 16, 1 << 24, 1<<24 | 5, 1<<31 - 1, 1 << 31, 1<<32 - 1} {
		for _, more := range []int{0, 1, 3, 4, 5, 150} {
			opens(t, fmt.Sprintf("a length of %d, and %d bytes", n, more), b.disk+refLong(n)+strings.Repeat("x", more), b)
		}
	}
	// A length is of four bytes: what is in the frame of a low one is not that of a great one.
	q := "Q" + refChange(remove("a"))
	for _, at := range []int{0, 1, 2} {
		high := []byte(refFrame(q))
		high[at] = 1
		opens(t, fmt.Sprint("a length with byte ", at), b.disk+string(high), b)
	}
}

// noLedger opens a disk on which there is what cannot be: it is not cut, whatever is behind.
func noLedger(t *testing.T, what, disk string) {
	t.Helper()
	for _, behind := range []string{"", "torn", refFrame("Q" + refChange(set("a", "1"))), "\x00\x00\x00\x05wrong sum "} {
		d := &tape{data: []byte(disk + behind)}
		x, err := roots.Open(d)
		if x != nil || !isFailed(err, "Open", api.ErrDisk) {
			t.Errorf("P12: %s: %v", what, err)
		}
		if asked := d.askedFor(); asked != "Bytes" || string(d.data) != disk+behind {
			t.Errorf("P12: %s: the disk was asked %q, and has %d bytes", what, asked, len(d.data))
		}
	}
}

// TestOpenCannotBe: P12, what is in a frame and cannot be, in whatever ledger: letters, changes that are none, bytes too few and too many.
func TestOpenCannotBe(t *testing.T) {
	frames, books := lifeFrames()
	b := books[len(frames)]
	cannot := map[string]string{
		"no such letter, 200 bytes": strings.Repeat("X", 200),
		"a key of 21 bytes, Set":    "Q\x00" + refShort(21) + strings.Repeat("k", 21) + refShort(0),
		"a key of 21 bytes, Delete": "Q\x01" + refShort(21) + strings.Repeat("k", 21),
		"a key of 21 bytes, Swap":   "Q\x02" + refShort(21) + strings.Repeat("k", 21) + refShort(0) + strings.Repeat("o", 32),
		"a key of 256 bytes":        "Q\x01" + refShort(256) + "k",
		"a value of 41 bytes, Set":  "Q\x00" + refShort(0) + refShort(41) + strings.Repeat("v", 41),
		"a value of 41 bytes, Swap": "Q\x02" + refShort(0) + refShort(41) + strings.Repeat("v", 41) + strings.Repeat("o", 32),
		"a value of 296 bytes":      "Q\x00" + refShort(0) + refShort(296) + strings.Repeat("v", 40),
		"a Delete with a value":     "Q\x01" + refShort(1) + "a" + refShort(1) + "1",
		"a Delete with no value":    "Q\x01" + refShort(1) + "a" + refShort(0),
		"a Set with Old":            "Q\x00" + refShort(1) + "a" + refShort(0) + strings.Repeat("o", 32),
		"a Swap without Old":        "Q\x02" + refShort(1) + "a" + refShort(0),
	}
	for letter := range 256 {
		if letter != 'Q' && letter != 'S' && letter != 'P' {
			cannot[fmt.Sprint("letter ", letter)] = string([]byte{byte(letter)})
			cannot[fmt.Sprint("letter and change ", letter)] = string([]byte{byte(letter)}) + refChange(remove("a"))
		}
	}
	for kind := 3; kind < 256; kind++ {
		for _, like := range []api.Change{set("a", "1"), remove("a"), swap("a", "1", "2")} {
			cannot[fmt.Sprintf("kind %d, like %d", kind, like.Kind)] = "Q" + string([]byte{byte(kind)}) + refChange(like)[1:]
		}
	}
	r, _ := b.recordOf(len(b.order))
	for what, s := range map[string]string{"Set": "Q" + refChange(set("a", "1")), "Delete": "Q" + refChange(remove("ab")), "Swap": "Q" + refChange(swap("a", "1", "2")), "S": "S" + refLong(1), "P": "P" + refRecord(r)} {
		opens(t, what, b.disk+refFrame(s), afterFrame(b, s))
		for n := 1; n < len(s); n++ {
			cannot[fmt.Sprintf("%s, %d bytes", what, n)] = s[:n]
		}
		cannot[what+", a byte more"] = s + "\x00"
		cannot[what+", as much as can be more"] = s + strings.Repeat("\x00", 200-len(s))
	}
	for what, s := range cannot {
		noLedger(t, what, refFrame(s))
		noLedger(t, what+", behind others", b.disk+refFrame(s))
	}
}

// afterFrame is b with what a frame says: one more waits, gets its place, or all is made known.
func afterFrame(b refBook, s string) refBook {
	switch s[0] {
	case 'S':
		b.sequence(1)
	case 'P':
		b.publish(len(b.order))
	default:
		b.waiting = append(b.waiting[:len(b.waiting):len(b.waiting)], api.Change{})
		b.disk += refFrame(s)
	}
	return b
}

// TestOpenPlaces: P12, S of none, of fewer than wait, and of just as many.
func TestOpenPlaces(t *testing.T) {
	_, books := lifeFrames()
	for i, b := range books {
		wait := len(b.waiting)
		for _, n := range []int{0, wait + 1, wait + 256, 1<<31 - 1, 1 << 31, 1<<32 - 1} {
			noLedger(t, fmt.Sprintf("S %d behind frame %d", n, i), b.disk+refFrame("S"+refLong(n)))
		}
		for n := 1; n <= wait; n++ {
			next := b
			next.sequence(n)
			opens(t, fmt.Sprintf("S %d behind frame %d", n, i), b.disk+refFrame("S"+refLong(n)), next)
		}
	}
}

// TestOpenRecords: P12, records of any number of changes, with the roots of these: only those above the last one's, up to all in their order.
func TestOpenRecords(t *testing.T) {
	_, books := lifeFrames()
	for i, b := range books {
		last := 0
		if len(b.records) > 0 {
			last = b.records[len(b.records)-1].Size
		}
		for size := range len(b.order) + 1 {
			what := fmt.Sprintf("a record of %d behind frame %d", size, i)
			r, _ := b.recordOf(size)
			disk := b.disk + refFrame("P"+refRecord(r))
			if size <= last {
				noLedger(t, what, disk)
				continue
			}
			next := b
			next.publish(size - last)
			opens(t, what, disk, next)
		}
		r, _ := b.recordOf(len(b.order))
		for _, size := range []int{len(b.order) + 1, len(b.order) + 256, 1<<31 - 1, 1 << 31, 1<<32 - 1} {
			r.Size = size
			noLedger(t, fmt.Sprintf("a record of %d, with the roots of all, behind frame %d", size, i), b.disk+refFrame("P"+refRecord(r)))
		}
	}
}

// TestOpenRoots: P12, a record whose roots are not those of its changes, by any byte of them.
func TestOpenRoots(t *testing.T) {
	b := refBook{}
	for _, s := range []step{queues(set("a", "1")), queues(set("b", "2")), sequences(2), publishes(1)} {
		s.ref(&b)
	}
	r, _ := b.recordOf(2)
	opens(t, "the record", b.disk+refFrame("P"+refRecord(r)), afterFrame(b, "P"))
	for at := range 64 {
		wrong := []byte(refRecord(r))
		wrong[4+at] ^= 1 << (at % 8)
		noLedger(t, fmt.Sprintf("a record with byte %d of its roots wrong", at), b.disk+refFrame("P"+string(wrong)))
	}
	first := b.records[0]
	for what, wrong := range map[string]api.Record{
		"the last one's roots":    {Size: 2, Log: first.Log, Map: first.Map},
		"the roots in each other": {Size: 2, Log: r.Map, Map: r.Log},
		"the last one's map":      {Size: 2, Log: r.Log, Map: first.Map},
		"the last one's log":      {Size: 2, Log: first.Log, Map: r.Map},
		"the empty roots":         {Size: 2, Log: roots.Hash(nil), Map: refEmpty(64)},
		"noughts":                 {Size: 2},
	} {
		noLedger(t, what, b.disk+refFrame("P"+refRecord(wrong)))
	}
}

// TestOpenCut: P12, where Cut fails it is ErrDead, and not tried again; where nothing is left Cut is not asked; where what is there cannot be, neither.
func TestOpenCut(t *testing.T) {
	frames, books := lifeFrames()
	b := books[len(frames)]
	d := &tape{data: []byte(b.disk + "torn"), answer: answering("Cut", 1)}
	x, err := roots.Open(d)
	if asked := d.askedFor(); x != nil || !isFailed(err, "Open", api.ErrDead) || asked != fmt.Sprintf("Bytes, Cut %d", len(b.disk)) {
		t.Errorf("P12: where Cut fails: %v, the disk was asked %q", err, asked)
	}
	all := func(string) int { return 2 }
	d = &tape{data: []byte(b.disk), answer: all}
	checkBook(t, "a broken disk of whole frames", opened(t, d), b)
	d = &tape{data: []byte(b.disk + refFrame("X") + "torn"), answer: all}
	if x, err := roots.Open(d); x != nil || !isFailed(err, "Open", api.ErrDisk) {
		t.Errorf("P12: what cannot be, on a broken disk: %v", err)
	}
}

// TestOpenGoesOn: P12, P13: a ledger that was opened goes on from where the frames end.
func TestOpenGoesOn(t *testing.T) {
	frames, books := lifeFrames()
	for i := range frames {
		b := books[i]
		d := &tape{data: []byte(b.disk + frames[i][:7])}
		x := opened(t, d)
		take(t, x, &b, aLife()[i:]...)
		take(t, x, &b, queues(set("new", "1")), sequences(9), publishes(9))
		if string(d.data) != b.disk {
			t.Errorf("P12: opened behind frame %d, the disk has %x, want %x", i, d.data, b.disk)
		}
		checkBook(t, fmt.Sprint("opened behind frame ", i), x, b)
	}
}

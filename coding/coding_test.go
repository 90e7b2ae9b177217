package coding

import (
	"bytes"
	"reflect"
	"testing"

	"roots/api"
)

// TestSound: a reading ends at its first fault, and what comes of elsewhere is not taken for one.
func TestSound(t *testing.T) {
	went := 0
	read := func(so bool) func() {
		return func() {
			went++
			Need(so)
			went += 10
		}
	}
	if !Sound(read(true)) || went != 11 {
		t.Errorf("a sound reading: %d", went)
	}
	if Sound(read(false)) || went != 12 {
		t.Errorf("a reading with a fault: %d", went)
	}
	if !Sound(func() {
		if Sound(read(false)) {
			t.Errorf("a fault in an inner reading")
		}
	}) {
		t.Errorf("the fault of an inner reading left it")
	}
	for _, other := range []any{"other", []int{1}, struct{}{}} {
		func() {
			defer func() {
				if p := recover(); !reflect.DeepEqual(p, other) {
					t.Errorf("another panic became %v", p)
				}
			}()
			Sound(func() { panic(other) })
		}()
	}
}

// TestReader: a reader takes what is there, and no more; its pieces cannot grow into what is behind them.
func TestReader(t *testing.T) {
	b := []byte("\x01\x02\x03\x04\x05\x06\x07")
	old := bytes.Clone(b)
	r := NewReader(b)
	if !Sound(func() {
		if r.Number(1) != 1 || r.Number(2) != 0x0203 || r.Number(0) != 0 {
			t.Errorf("the numbers are others")
		}
		piece := r.Take(2)
		if _ = append(piece, "grown"...); cap(piece) != 2 || !bytes.Equal(b, old) {
			t.Errorf("a piece grew into what is behind it")
		}
	}) {
		t.Errorf("what is there cannot be taken")
	}
	if string(r.Rest()) != "\x06\x07" || Sound(r.End) || Sound(func() { r.Take(3) }) || string(r.Rest()) != "\x06\x07" {
		t.Errorf("the rest is %x", r.Rest())
	}
	if !Sound(func() { r.Take(2); r.End() }) {
		t.Errorf("the end is not the end")
	}
	if NewReader([]byte{255, 255, 255, 255}).Number(4) != 1<<32-1 {
		t.Errorf("the greatest number of four bytes")
	}
}

// TestText: a text comes back as it was, up to the greatest length of two bytes, and not where bytes are missing.
func TestText(t *testing.T) {
	for _, n := range []int{0, 1, 20, 255, 256, 1<<16 - 1} {
		want := bytes.Repeat([]byte("x"), n)
		b := AppendText([]byte("ahead"), want)[5:]
		if len(b) != 2+n || int(b[0])<<8+int(b[1]) != n {
			t.Errorf("a text of %d bytes has %d, and begins with %x", n, len(b), b[:2])
		}
		var back []byte
		r := NewReader(append(b, "behind"...))
		if !Sound(func() { back = r.Text() }) || !bytes.Equal(back, want) || cap(back) != n || string(r.Rest()) != "behind" {
			t.Errorf("a text of %d bytes came back with %d, and room for %d", n, len(back), cap(back))
		}
		for _, short := range []int{0, 1, len(b) - 1} {
			r := NewReader(b[:short])
			if short < len(b) && Sound(func() { r.Text() }) {
				t.Errorf("of a text of %d bytes the first %d are one", len(b), short)
			}
		}
	}
}

// TestBack: P12, changes and records come back as they were written.
func TestBack(t *testing.T) {
	for _, c := range []api.Change{
		{Key: []byte("key"), Value: []byte("value")},
		{Kind: api.Delete, Key: []byte("key")},
		{Kind: api.Swap, Key: bytes.Repeat([]byte("k"), api.MaxKey), Value: bytes.Repeat([]byte("v"), api.MaxValue), Old: api.Sum{1, 31: 2}},
		{Key: []byte{}, Value: []byte{}},
	} {
		var back api.Change
		r := NewReader(AppendChange([]byte("Q"), c)[1:])
		if !Sound(func() { back = r.Change(); r.End() }) || !reflect.DeepEqual(back, c) {
			t.Errorf("P12: %v came back as %v", c, back)
		}
	}
	want := api.Record{Size: 1<<32 - 2, Log: api.Sum{1}, Map: api.Sum{31: 9}}
	var back api.Record
	b := AppendRecord(nil, want)
	r := NewReader(b)
	if !Sound(func() { back = r.Record(); r.End() }) || back != want || len(b) != 68 {
		t.Errorf("P12: %v came back as %v, of %d bytes", want, back, len(b))
	}
}

// Package coding: numbers, changes and records as bytes (P12), and the reading of bytes, which ends at its first fault.
package coding

import "roots/api"

// AppendNumber puts a number of so many bytes behind b, the high one first.
func AppendNumber(b []byte, size int, n uint32) []byte {
	for k := size - 1; k >= 0; k-- {
		b = append(b, byte(n>>(8*k)))
	}
	return b
}

// AppendChange puts a change as bytes behind b. Its kind is one of the three, its key and its value are not too long.
func AppendChange(b []byte, c api.Change) []byte {
	b = append(b, byte(c.Kind))
	b = AppendText(b, c.Key)
	if HasValue(c.Kind) {
		b = AppendText(b, c.Value)
	}
	if c.Kind == api.Swap {
		b = append(b, c.Old[:]...)
	}
	return b
}

// HasValue tells of which kinds of changes the value says something.
func HasValue(kind int) bool {
	return kind != api.Delete
}

// AppendText puts a text (a key, a value, a change as bytes) behind b, with its length, two bytes, ahead of it.
func AppendText(b, text []byte) []byte {
	return append(AppendNumber(b, 2, uint32(len(text))), text...)
}

// AppendRecord puts a record as its sixty-eight bytes behind b.
func AppendRecord(b []byte, r api.Record) []byte {
	b = AppendNumber(b, 4, uint32(r.Size))
	b = append(b, r.Log[:]...)
	return append(b, r.Map[:]...)
}

// Package octet is layer 1: numbers as bytes, the highest first, and a reader that goes on and back among bytes. See 01-octet.md.
package octet

import "bytes"

// number is what has bytes that can be put.
type number interface {
	uint16 | uint32 | uint64
}

// Put16: P1.1.
func Put16(b []byte, x uint16) []byte {
	return put(b, x, 2)
}

// Put32: P1.1.
func Put32(b []byte, x uint32) []byte {
	return put(b, x, 4)
}

// Put64: P1.1.
func Put64(b []byte, x uint64) []byte {
	return put(b, x, 8)
}

// put never appends to b itself: the room behind b's end belongs to whoever handed it in.
func put[T number](b []byte, x T, size int) []byte {
	out := make([]byte, len(b)+size)
	copy(out, b)
	for i := range size {
		out[len(b)+i] = byte(x >> (8 * (size - 1 - i)))
	}
	return out
}

// Equal: P1.2.
func Equal(a, b []byte) bool {
	return bytes.Equal(a, b)
}

// Count: P1.2.
func Count(b []byte, c byte) int {
	n := 0
	for _, x := range b {
		if x == c {
			n++
		}
	}
	return n
}

package octet_test

import (
	"bytes"
	"math"
	"testing"

	"tallyhouse/octet"
)

func samples() []uint64 {
	out := []uint64{0, 1, 2, 127, 128, 254, 255, 256, 257, 258, 0x0102030405060708, 0xfedcba9876543210}
	for shift := range 64 {
		out = append(out, 1<<shift-1, 1<<shift, 1<<shift+1)
	}
	return append(out, math.MaxUint64-1, math.MaxUint64)
}

func texts() [][]byte {
	return [][]byte{nil, {}, {0}, {7}, {0, 0}, {0, 7, 0}, {255, 0, 1, 255}, bytes.Repeat([]byte{9, 0, 255}, 50)}
}

// P1.1: the chapter's examples, and each byte at its place.
func TestPutBytes(t *testing.T) {
	for i, q := range []struct{ got, want []byte }{
		{octet.Put16([]byte{7}, 258), []byte{7, 1, 2}},
		{octet.Put32(nil, 1), []byte{0, 0, 0, 1}},
		{octet.Put64(nil, 256), []byte{0, 0, 0, 0, 0, 0, 1, 0}},
		{octet.Put16(nil, 0), []byte{0, 0}},
		{octet.Put32(nil, 0), []byte{0, 0, 0, 0}},
		{octet.Put64(nil, 0), []byte{0, 0, 0, 0, 0, 0, 0, 0}},
		{octet.Put16([]byte{}, 0xfffe), []byte{255, 254}},
		{octet.Put32([]byte{1, 2}, 0x80a0b0c1), []byte{1, 2, 0x80, 0xa0, 0xb0, 0xc1}},
		{octet.Put64([]byte{9}, 0xf1e2d3c4b5a69788), []byte{9, 0xf1, 0xe2, 0xd3, 0xc4, 0xb5, 0xa6, 0x97, 0x88}},
		{octet.Put64(nil, math.MaxUint64), bytes.Repeat([]byte{255}, 8)},
	} {
		if !bytes.Equal(q.got, q.want) {
			t.Errorf("%d: %x, not %x", i, q.got, q.want)
		}
	}
}

// P1.1: what is put stands in memory of its own, and the room behind the list's end is left alone.
func TestPutOwnMemory(t *testing.T) {
	puts := []func([]byte) []byte{
		func(b []byte) []byte { return octet.Put16(b, 0x0101) },
		func(b []byte) []byte { return octet.Put32(b, 0x01010101) },
		func(b []byte) []byte { return octet.Put64(b, 0x0101010101010101) },
	}
	for i, put := range puts {
		room := bytes.Repeat([]byte{200}, 32)
		b := room[:3]
		one, two := put(b), put(b)
		if !bytes.Equal(room, bytes.Repeat([]byte{200}, 32)) {
			t.Errorf("%d: the room was written to: %v", i, room)
		}
		want := bytes.Clone(two)
		for k := range one {
			one[k] = 77
		}
		if !bytes.Equal(two, want) || !bytes.Equal(b, []byte{200, 200, 200}) {
			t.Errorf("%d: memory is shared: %v %v", i, two, b)
		}
	}
}

// P1.2: Equal is about the bytes and how many there are; nil and empty are one.
func TestEqual(t *testing.T) {
	for i, q := range []struct {
		a, b []byte
		want bool
	}{
		{[]byte{1, 2}, []byte{1, 2}, true},
		{[]byte{1}, []byte{1, 0}, false},
		{[]byte{1, 0}, []byte{1}, false},
		{nil, nil, true},
		{nil, []byte{}, true},
		{[]byte{}, nil, true},
		{nil, []byte{0}, false},
		{[]byte{0}, nil, false},
		{[]byte{1, 2, 3}, []byte{1, 2, 4}, false},
		{[]byte{1, 2, 3}, []byte{0, 2, 3}, false},
		{[]byte{1, 2, 3}, []byte{1, 3, 3}, false},
		{[]byte{1, 2}, []byte{2, 1}, false},
	} {
		if got := octet.Equal(q.a, q.b); got != q.want {
			t.Errorf("%d: Equal(%v, %v): %v", i, q.a, q.b, got)
		}
	}
	for i, a := range texts() {
		for k, b := range texts() {
			if got := octet.Equal(a, b); got != (string(a) == string(b)) {
				t.Errorf("%d %d: %v", i, k, got)
			}
		}
	}
}

// P1.2: Count.
func TestCount(t *testing.T) {
	for i, q := range []struct {
		b    []byte
		c    byte
		want int
	}{
		{[]byte{0, 7, 0}, 0, 2},
		{[]byte{0, 7, 0}, 7, 1},
		{[]byte{0, 7, 0}, 8, 0},
		{nil, 0, 0},
		{[]byte{}, 0, 0},
		{[]byte{5}, 5, 1},
		{[]byte{255, 255, 255}, 255, 3},
		{make([]byte, 70000), 0, 70000},
	} {
		if got := octet.Count(q.b, q.c); got != q.want {
			t.Errorf("%d: %d, not %d", i, got, q.want)
		}
	}
	room := []byte{4, 4, 4, 4}
	if got := octet.Count(room[1:2], 4); got != 1 {
		t.Errorf("beyond the list: %d", got)
	}
}

// R3: Equal and Count leave alone what they are handed.
func TestAskedBytesStay(t *testing.T) {
	for i, b := range texts() {
		was := bytes.Clone(b)
		octet.Equal(b, b)
		octet.Equal(b, []byte{0})
		octet.Count(b, 0)
		if !bytes.Equal(b, was) {
			t.Errorf("%d: %v", i, b)
		}
	}
}

// P1.5: the bytes of a greater number are greater.
func TestOrderOfBytes(t *testing.T) {
	for _, x := range samples() {
		for _, y := range samples() {
			if got := bytes.Compare(octet.Put64(nil, x), octet.Put64(nil, y)); got != order(x, y) {
				t.Fatalf("64 bits: %d %d: %d", x, y, got)
			}
			a, b := uint32(x), uint32(y)
			if got := bytes.Compare(octet.Put32(nil, a), octet.Put32(nil, b)); got != order(a, b) {
				t.Fatalf("32 bits: %d %d: %d", a, b, got)
			}
		}
	}
	for x := range 1 << 16 {
		for _, y := range []uint16{0, 1, 255, 256, 257, 0x7fff, 0x8000, 0xff00, 0xffff, uint16(x + 1)} {
			if got := bytes.Compare(octet.Put16(nil, uint16(x)), octet.Put16(nil, y)); got != order(uint16(x), y) {
				t.Fatalf("16 bits: %d %d: %d", x, y, got)
			}
		}
	}
}

func order[T uint16 | uint32 | uint64](a, b T) int {
	switch {
	case a < b:
		return -1
	case a > b:
		return 1
	}
	return 0
}

// P1.5: two parts together count as all; all counts of all bytes are as many as there are.
func TestCountsAddUp(t *testing.T) {
	for i, a := range texts() {
		for k, b := range texts() {
			both := append(bytes.Clone(a), b...)
			sum := 0
			for c := range 256 {
				n := octet.Count(both, byte(c))
				if n != octet.Count(a, byte(c))+octet.Count(b, byte(c)) {
					t.Errorf("%d %d: byte %d: %d", i, k, c, n)
				}
				sum += n
			}
			if sum != len(both) {
				t.Errorf("%d %d: %d of %d", i, k, sum, len(both))
			}
		}
	}
}

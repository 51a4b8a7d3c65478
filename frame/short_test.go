package frame_test

import (
	"bytes"
	"slices"
	"testing"

	"tallyhouse/frame"
)

// shorts are the bytes of numbers at the edges.
func shorts() map[uint64][]byte {
	return map[uint64][]byte{
		0:         {0},
		1:         {1},
		127:       {0x7F},
		128:       {0x81, 0},
		255:       {0x81, 0x7F},
		300:       {0x82, 0x2C},
		1<<14 - 1: {0xFF, 0x7F},
		1 << 14:   {0x81, 0x80, 0},
		1<<21 - 1: {0xFF, 0xFF, 0x7F},
		1 << 21:   {0x81, 0x80, 0x80, 0},
		1<<56 - 1: {0xFF, 0xFF, 0xFF, 0xFF, 0xFF, 0xFF, 0xFF, 0x7F},
		1 << 56:   {0x81, 0x80, 0x80, 0x80, 0x80, 0x80, 0x80, 0x80, 0},
		1 << 62:   {0xC0, 0x80, 0x80, 0x80, 0x80, 0x80, 0x80, 0x80, 0},
		1<<63 - 1: {0xFF, 0xFF, 0xFF, 0xFF, 0xFF, 0xFF, 0xFF, 0xFF, 0x7F},
		1 << 63:   {0x81, 0x80, 0x80, 0x80, 0x80, 0x80, 0x80, 0x80, 0x80, 0},
		top - 1:   {0x81, 0xFF, 0xFF, 0xFF, 0xFF, 0xFF, 0xFF, 0xFF, 0xFF, 0x7E},
		top:       {0x81, 0xFF, 0xFF, 0xFF, 0xFF, 0xFF, 0xFF, 0xFF, 0xFF, 0x7F},
	}
}

// P7.3.
func TestShort(t *testing.T) {
	for x, want := range shorts() {
		if b := frame.Short(x); !bytes.Equal(b, want) {
			t.Errorf("Short(%d): %x", x, b)
		}
		if got, size, ok := frame.Long(want); got != x || size != len(want) || !ok {
			t.Errorf("Long(%x): %d %d %v", want, got, size, ok)
		}
	}
}

// numbers are those around each power of two, and others between.
func numbers() []uint64 {
	list := []uint64{0, 0x5555555555555555, 0x0123456789ABCDEF, 0xFEDCBA9876543210, top}
	for i := range 64 {
		x := uint64(1) << i
		list = append(list, x-1, x, x+1, x|x>>1|x>>5, top-x, top>>i)
	}
	for i := range uint64(40000) {
		list = append(list, i)
	}
	return list
}

// P7.4: Long of Short is the number, whatever stands behind it; P7.3: just the bytes that the words say.
func TestLongOfShort(t *testing.T) {
	for _, x := range numbers() {
		b := frame.Short(x)
		if !bytes.Equal(b, digits(x)) {
			t.Fatalf("Short(%d): %x", x, b)
		}
		for _, behind := range []string{"", "\x00", "\x07", "\x80", "\xff\xff", string(b), "\x80\x80\x80\x80\x80\x80\x80\x80\x80\x80\x80"} {
			if got, size, ok := frame.Long(append(bytes.Clone(b), behind...)); got != x || size != len(b) || !ok {
				t.Fatalf("Long(%x %x): %d %d %v", b, behind, got, size, ok)
			}
		}
		for n := range len(b) {
			if got, size, ok := frame.Long(b[:n]); got != 0 || size != 0 || ok {
				t.Fatalf("Long(%x): %d %d %v", b[:n], got, size, ok)
			}
		}
	}
}

// P7.4: a greater number has no fewer short bytes.
func TestShortGrows(t *testing.T) {
	list := numbers()
	for _, x := range list[:len(list)-40000] {
		for _, y := range list[:len(list)-40000] {
			if x < y && len(frame.Short(x)) > len(frame.Short(y)) {
				t.Errorf("%d, %d", x, y)
			}
		}
	}
}

// P7.3: the chapter's examples, and bytes that begin with those of no number.
func TestLongRefuses(t *testing.T) {
	if x, size, ok := frame.Long([]byte{0x81, 0, 7}); x != 128 || size != 2 || !ok {
		t.Errorf("81 00 07: %d %d %v", x, size, ok)
	}
	if x, size, ok := frame.Long([]byte{0, 0x80}); x != 0 || size != 1 || !ok {
		t.Errorf("00 80: %d %d %v", x, size, ok)
	}
	for name, b := range map[string][]byte{
		"nothing":                nil,
		"no bytes":               {},
		"81, ends":               {0x81},
		"FF, ends":               {0xFF},
		"nine, ends":             {0xFF, 0xFF, 0xFF, 0xFF, 0xFF, 0xFF, 0xFF, 0xFF, 0xFF},
		"80, ends":               {0x80},
		"0 in two bytes":         {0x80, 0},
		"1 in two bytes":         {0x80, 1},
		"127 in two bytes":       {0x80, 0x7F},
		"128 in three bytes":     {0x80, 0x81, 0},
		"0 in three bytes":       {0x80, 0x80, 0},
		"2^63 - 1 in ten bytes":  {0x80, 0xFF, 0xFF, 0xFF, 0xFF, 0xFF, 0xFF, 0xFF, 0xFF, 0x7F},
		"2^64":                   {0x82, 0x80, 0x80, 0x80, 0x80, 0x80, 0x80, 0x80, 0x80, 0},
		"2^64 + 5":               {0x82, 0x80, 0x80, 0x80, 0x80, 0x80, 0x80, 0x80, 0x80, 5},
		"2^65 - 1":               {0x83, 0xFF, 0xFF, 0xFF, 0xFF, 0xFF, 0xFF, 0xFF, 0xFF, 0x7F},
		"2^69":                   {0xC0, 0x80, 0x80, 0x80, 0x80, 0x80, 0x80, 0x80, 0x80, 0},
		"2^70 - 1":               {0xFF, 0xFF, 0xFF, 0xFF, 0xFF, 0xFF, 0xFF, 0xFF, 0xFF, 0x7F},
		"2^70":                   {0x81, 0x80, 0x80, 0x80, 0x80, 0x80, 0x80, 0x80, 0x80, 0x80, 0},
		"2^70 + 1":               {0x81, 0x80, 0x80, 0x80, 0x80, 0x80, 0x80, 0x80, 0x80, 0x80, 1},
		"2^126, whose end is 0":  append([]byte{0x81}, append(bytes.Repeat([]byte{0x80}, 17), 0)...),
		"more and more":          bytes.Repeat([]byte{0xFF}, 1000),
		"a nought and no end":    bytes.Repeat([]byte{0x80}, 1000),
		"1 behind many noughts":  append(bytes.Repeat([]byte{0x80}, 1000), 1),
		"2^64 behind a 1 and so": append(append([]byte{0x81}, bytes.Repeat([]byte{0x80}, 1000)...), 1),
	} {
		if x, size, ok := frame.Long(b); x != 0 || size != 0 || ok {
			t.Errorf("%s: %d %d %v", name, x, size, ok)
		}
	}
}

// P7.3: of all lists of up to three bytes just those with the bytes of a number in front.
func TestLongOfFewBytes(t *testing.T) {
	for n := range 4 {
		for all := range 1 << (8 * n) {
			b := []byte{byte(all), byte(all >> 8), byte(all >> 16)}[:n]
			want, length := begins(b)
			if x, size, ok := frame.Long(b); x != want || size != length || ok != (length > 0) {
				t.Fatalf("Long(%x): %d %d %v", b, x, size, ok)
			}
		}
	}
}

// begins is the number whose bytes stand in front, and how many these are; of none 0 and 0.
func begins(b []byte) (uint64, int) {
	end := slices.IndexFunc(b, func(c byte) bool { return c < 128 }) + 1
	x := uint64(0)
	for _, c := range b[:end] {
		x = 128*x + uint64(c%128)
	}
	if end == 0 || !bytes.Equal(digits(x), b[:end]) {
		return 0, 0
	}
	return x, end
}

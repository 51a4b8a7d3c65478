package value_test

import (
	"bytes"
	"slices"
	"strings"
	"testing"

	"tallyhouse/api"
	"tallyhouse/value"
)

// every is the values that the bytes are tried at.
func every() []api.Value {
	out := rising()
	for _, s := range noughtsAt() {
		out = append(out, value.Text(s))
	}
	for n := range api.MaxText + 1 {
		out = append(out, value.Text(strings.Repeat("\x00", n)), value.Text(strings.Repeat("e", n)))
	}
	for _, n := range numbers() {
		out = append(out, value.Int(n))
	}
	return out
}

// encoded fails the test where a value has no bytes.
func encoded(t *testing.T, v api.Value) []byte {
	t.Helper()
	b, err := value.Encode(v)
	if err != api.OK {
		t.Fatalf("%#v: error %d", v, err)
	}
	return b
}

// decodes fails the test where value.Decode says something else.
func decodes(t *testing.T, b []byte, want api.Value, size int, err api.Errno) {
	t.Helper()
	was := bytes.Clone(b)
	if v, n, e := value.Decode(b); v != want || n != size || e != err {
		t.Errorf("%x: %#v, %d bytes, error %d; not %#v, %d bytes, error %d", b, v, n, e, want, size, err)
	}
	if !bytes.Equal(b, was) {
		t.Errorf("%x was changed", was)
	}
}

// P5.5: the chapter's examples, and the bytes of each Kind at its edges.
func TestEncodeBytes(t *testing.T) {
	for _, q := range []struct {
		v    api.Value
		want string
	}{
		{value.Int(-1), "\x03\x7f\xff\xff\xff\xff\xff\xff\xff"},
		{value.Text("a"), "\x04a\x00\x00"},
		{value.Null(), "\x01"},
		{value.Bool(false), "\x02\x00"},
		{value.Bool(true), "\x02\x01"},
		{value.Int(-1 << 63), "\x03\x00\x00\x00\x00\x00\x00\x00\x00"},
		{value.Int(0), "\x03\x80\x00\x00\x00\x00\x00\x00\x00"},
		{value.Int(0x0102030405060708), "\x03\x81\x02\x03\x04\x05\x06\x07\x08"},
		{value.Int(1<<63 - 1), "\x03\xff\xff\xff\xff\xff\xff\xff\xff"},
		{value.Text(""), "\x04\x00\x00"},
		{value.Text("\x00"), "\x04\x00\xff\x00\x00"},
		{value.Text("\x00\x00"), "\x04\x00\xff\x00\xff\x00\x00"},
		{value.Text("\x00\xff"), "\x04\x00\xff\xff\x00\x00"},
		{value.Text("a\x00b\xff\xfe"), "\x04a\x00\xffb\xff\xfe\x00\x00"},
		{value.Text("z\u00e9"), "\x04z\xc3\xa9\x00\x00"},
		{value.Text(strings.Repeat("q", 64)), "\x04" + strings.Repeat("q", 64) + "\x00\x00"},
		{value.Text(strings.Repeat("\x00", 64)), "\x04" + strings.Repeat("\x00\xff", 64) + "\x00\x00"},
	} {
		if b := encoded(t, q.v); string(b) != q.want {
			t.Errorf("%#v: %x, not %x", q.v, b, q.want)
		}
		decodes(t, []byte(q.want), q.v, len(q.want), api.OK)
	}
}

// P5.5: what may not be has no bytes.
func TestEncodeWrong(t *testing.T) {
	for _, v := range wrong() {
		if b, err := value.Encode(v); len(b) > 0 || err != api.ErrValue {
			t.Errorf("%#v: %x, error %d", v, b, err)
		}
	}
}

// R3: what is encoded is memory of its own; a text that is decoded keeps nothing of its bytes.
func TestBytesOwnMemory(t *testing.T) {
	for _, v := range rising() {
		one, two := encoded(t, v), encoded(t, v)
		want := bytes.Clone(two)
		got, _, _ := value.Decode(one)
		for i := range one {
			one[i] = 77
		}
		if !bytes.Equal(two, want) {
			t.Errorf("%#v: memory is shared", v)
		}
		if got != v {
			t.Errorf("%#v: is %#v behind a change of the bytes", v, got)
		}
	}
}

// P5.5, P5.6: Decode leads back, and tells nothing of what stands behind the end; with less it is short.
func TestDecodeLeadsBack(t *testing.T) {
	for _, v := range every() {
		b := encoded(t, v)
		decodes(t, b, v, len(b), api.OK)
		for _, more := range []string{"\x00", "\x01", "\xff", "\x00\x00", "\x00\xff\x00\x00", "\x04a\x00\x00", "\x05", "\x02\x02", strings.Repeat("\xfe", 100)} {
			decodes(t, append(b[:len(b):len(b)], more...), v, len(b), api.OK)
		}
		for n := range b {
			decodes(t, b[:n:n], api.Value{}, 0, api.ErrShort)
			decodes(t, b[:n], api.Value{}, 0, api.ErrShort)
		}
	}
	decodes(t, nil, api.Value{}, 0, api.ErrShort)
	decodes(t, []byte{}, api.Value{}, 0, api.ErrShort)
}

// P5.5: each first byte, alone and with bytes behind it.
func TestDecodeKinds(t *testing.T) {
	for c := range 256 {
		alone, more := []byte{byte(c)}, append([]byte{byte(c), 1}, make([]byte, 20)...)
		switch c {
		case 1:
			decodes(t, alone, value.Null(), 1, api.OK)
			decodes(t, more, value.Null(), 1, api.OK)
		case 2:
			decodes(t, alone, api.Value{}, 0, api.ErrShort)
			decodes(t, more, value.Bool(true), 2, api.OK)
		case 3:
			decodes(t, alone, api.Value{}, 0, api.ErrShort)
			decodes(t, more, value.Int(-1<<63+1<<56), 9, api.OK)
		case 4:
			decodes(t, alone, api.Value{}, 0, api.ErrShort)
			decodes(t, more, value.Text("\x01"), 4, api.OK)
		default:
			decodes(t, alone, api.Value{}, 0, api.ErrValue)
			decodes(t, more, api.Value{}, 0, api.ErrValue)
		}
	}
}

// P5.5: each byte of a bool.
func TestDecodeBools(t *testing.T) {
	decodes(t, []byte{2, 0}, value.Bool(false), 2, api.OK)
	decodes(t, []byte{2, 1}, value.Bool(true), 2, api.OK)
	for c := 2; c < 256; c++ {
		decodes(t, []byte{2, byte(c)}, api.Value{}, 0, api.ErrValue)
		decodes(t, []byte{2, byte(c), 1}, api.Value{}, 0, api.ErrValue)
	}
}

// P5.5: behind a text's 00 each byte, at each place of it: 00 ends it, FF goes on, another one is wrong, whether there are bytes behind it or not.
func TestDecodeNoughts(t *testing.T) {
	for n := range api.MaxText + 1 {
		text := strings.Repeat("m", n)
		open := "\x04" + text + "\x00"
		decodes(t, []byte(open), api.Value{}, 0, api.ErrShort)
		for c := range 256 {
			b := append([]byte(open), byte(c))
			whole := append(bytes.Clone(b), 0, 0)
			switch {
			case c == 0:
				decodes(t, b, value.Text(text), len(b), api.OK)
				decodes(t, whole, value.Text(text), len(b), api.OK)
			case c < 255, n == api.MaxText:
				decodes(t, b, api.Value{}, 0, api.ErrValue)
				decodes(t, whole, api.Value{}, 0, api.ErrValue)
			default:
				decodes(t, b, api.Value{}, 0, api.ErrShort)
				decodes(t, whole, value.Text(text+"\x00"), len(whole), api.OK)
			}
		}
	}
	decodes(t, []byte{4, 0}, api.Value{}, 0, api.ErrShort)
	decodes(t, []byte{4, 0, 1}, api.Value{}, 0, api.ErrValue)
}

// P5.5: the first byte that is one too many is the wrong one; a 00 at its place may still end the text.
func TestDecodeTooMany(t *testing.T) {
	for _, full := range []string{strings.Repeat("m", 64), strings.Repeat("\x00\xff", 64), strings.Repeat("m", 63) + "\x00\xff", "\x00\xff" + strings.Repeat("\xff", 63)} {
		b := []byte("\x04" + full)
		decodes(t, b, api.Value{}, 0, api.ErrShort)
		for c := 1; c < 256; c++ {
			decodes(t, append(b[:len(b):len(b)], byte(c)), api.Value{}, 0, api.ErrValue)
			decodes(t, append(b[:len(b):len(b)], byte(c), 0, 0), api.Value{}, 0, api.ErrValue)
		}
		decodes(t, append(b[:len(b):len(b)], 0), api.Value{}, 0, api.ErrShort)
		decodes(t, append(b[:len(b):len(b)], 0, 255), api.Value{}, 0, api.ErrValue)
		decodes(t, append(b[:len(b):len(b)], 0, 255, 0, 0), api.Value{}, 0, api.ErrValue)
		decodes(t, append(b[:len(b):len(b)], 0, 0), value.Text(strings.ReplaceAll(full, "\x00\xff", "\x00")), len(b)+2, api.OK)
	}
}

// holds asks of any bytes what has to be so of them: a value's are those that it is encoded to, what is short can be filled up, and what is wrong can't, and is short without its last byte.
func holds(t *testing.T, b []byte, short bool) {
	t.Helper()
	v, n, err := value.Decode(b)
	filled, size, late := value.Decode(append(bytes.Clone(b), make([]byte, 9)...))
	switch err {
	case api.OK:
		if !bytes.Equal(encoded(t, v), b[:n]) {
			t.Fatalf("%x: %#v", b, v)
		}
	case api.ErrShort:
		if late != api.OK || size <= len(b) || !bytes.Equal(encoded(t, filled)[:len(b)], b) {
			t.Fatalf("%x: short, but filled up %#v, error %d", b, filled, late)
		}
	case api.ErrValue:
		if !short {
			return
		}
		for c := range 256 {
			if _, _, err := value.Decode(append(bytes.Clone(b), byte(c), 255, 0, 0)); err != api.ErrValue {
				t.Fatalf("%x: wrong, but not with %x behind it", b, c)
			}
		}
	default:
		t.Fatalf("%x: error %d", b, err)
	}
	if err != api.OK && (v != api.Value{} || n != 0) {
		t.Fatalf("%x: %#v, %d bytes, beside error %d", b, v, n, err)
	}
}

// P5.5, P5.6: all short lists of the bytes that mean something.
func TestDecodeShortLists(t *testing.T) {
	lists := [][]byte{nil}
	for range 6 {
		var longer [][]byte
		for _, b := range lists {
			_, _, err := value.Decode(b)
			for _, c := range []byte{0, 1, 2, 3, 4, 5, 'a', 254, 255} {
				next := append(bytes.Clone(b), c)
				holds(t, next, err == api.ErrShort)
				// What is told already stays so, whatever is behind it.
				if _, _, now := value.Decode(next); err != api.ErrShort && now != err {
					t.Fatalf("%x: error %d, not %d", next, now, err)
				}
				if err == api.ErrShort {
					longer = append(longer, next)
				}
			}
		}
		lists = longer
	}
}

// P5.6: the bytes stand as the values do, and no one's bytes begin with another one's.
func TestOrderOfBytes(t *testing.T) {
	all := slices.CompactFunc(slices.SortedFunc(slices.Values(every()), value.Compare), func(a, b api.Value) bool { return a == b })
	var before []byte
	for i, v := range all {
		b := encoded(t, v)
		// Neighbours tell of all: what lies between a list and one that begins with it begins with it, too.
		if i > 0 && (bytes.Compare(before, b) >= 0 || bytes.HasPrefix(b, before)) {
			t.Fatalf("%x, then %x", before, b)
		}
		before = b
	}
	some := rising()
	for i, a := range some {
		for k, b := range some {
			x, y := encoded(t, a), encoded(t, b)
			if bytes.Compare(x, y) != value.Compare(a, b) || i != k && bytes.HasPrefix(x, y) {
				t.Errorf("%#v and %#v: %x and %x", a, b, x, y)
			}
		}
	}
}

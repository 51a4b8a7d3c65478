package value_test

import (
	"cmp"
	"math"
	"strings"
	"testing"

	"tallyhouse/api"
	"tallyhouse/value"
)

// numbers are the edges of 64 bits, and those about the middle and about each power of two.
func numbers() []int64 {
	out := []int64{math.MinInt64, math.MinInt64 + 1, -3037000500, -3037000499, -10, -7, -3}
	out = append(out, 3, 7, 10, 3037000499, 3037000500, 3074457345618258602, 3074457345618258603)
	for shift := range 63 {
		x := int64(1) << shift
		out = append(out, -x-1, -x, -x+1, x-1, x, x+1)
	}
	return append(out, math.MaxInt64-1, math.MaxInt64)
}

// rising are values that may be, each one ahead of the next.
func rising() []api.Value {
	out := []api.Value{value.Null(), value.Bool(false), value.Bool(true)}
	for _, n := range []int64{
		math.MinInt64, math.MinInt64 + 1, -1 << 32, -257, -256, -255, -2, -1,
		0, 1, 2, 255, 256, 257, 1 << 32, math.MaxInt64 - 1, math.MaxInt64,
	} {
		out = append(out, value.Int(n))
	}
	for _, s := range risingTexts() {
		out = append(out, value.Text(s))
	}
	return out
}

// risingTexts have noughts and bytes of 255 at either end and amid them, and one that begins with another one behind it.
func risingTexts() []string {
	full := strings.Repeat("\x00", 64)
	return []string{
		"", "\x00", "\x00\x00", "\x00\x00\x00", full[:63], full, full[:63] + "\x01", "\x00\x00\x01", "\x00\x01", "\x00\xfe", "\x00\xff", "\x00\xff\x00",
		"\x01", "\x01\x00", "\x01\x01", "\x01\xff", "A", "a", "a\x00", "a\x00\x00b", "a\x00b", "a\x01", "a\x01\x00", "aa", "ab", "a\xff",
		"b", "z\u00e9", strings.Repeat("~", 63), strings.Repeat("~", 64),
		"\x80", "\xfe\xff", "\xff", "\xff\x00", "\xff\x00\xff", "\xff\x01", "\xff\xff", strings.Repeat("\xff", 64),
	}
}

// noughtsAt are texts with one nought, at each place of each length.
func noughtsAt() []string {
	var out []string
	for n := range api.MaxText {
		for i := range n + 1 {
			out = append(out, strings.Repeat("q", i)+"\x00"+strings.Repeat("\xff", n-i))
		}
	}
	return out
}

// wrong are values that may not be.
func wrong() []api.Value {
	out := []api.Value{{}, {Num: 1}, {Text: "a"}}
	for _, kind := range []int{math.MinInt, -1, 0, 5, 6, 255, 256, 257, 258, 259, 260, 1<<32 + 1, 1<<32 + 4, math.MaxInt} {
		out = append(out, api.Value{Kind: kind}, api.Value{Kind: kind, Num: 1}, api.Value{Kind: kind, Text: "a"})
	}
	for _, n := range []int64{math.MinInt64, -1, 1, 1 << 32, math.MaxInt64} {
		out = append(out, api.Value{Kind: api.ValNull, Num: n}, api.Value{Kind: api.ValText, Num: n}, api.Value{Kind: api.ValText, Num: n, Text: "a"})
	}
	for _, n := range []int64{math.MinInt64, -256, -255, -1, 2, 3, 255, 256, 257, 1<<32 + 1, math.MaxInt64} {
		out = append(out, value.Int(n))
		out[len(out)-1].Kind = api.ValBool
	}
	for _, s := range []string{"a", "\x00", strings.Repeat("a", 64)} {
		out = append(out, api.Value{Kind: api.ValNull, Text: s}, api.Value{Kind: api.ValInt, Text: s}, api.Value{Kind: api.ValInt, Num: 1, Text: s})
		out = append(out, api.Value{Kind: api.ValBool, Text: s}, api.Value{Kind: api.ValBool, Num: 1, Text: s})
	}
	for _, s := range []string{"a", "\x00", "\xff"} {
		out = append(out, value.Text(strings.Repeat(s, 65)), value.Text(strings.Repeat(s, 128)), value.Text(strings.Repeat(s, 256)), value.Text(strings.Repeat(s, 1<<16)))
	}
	return out
}

// P5.1: what may be is OK, at all edges; all else is ErrValue.
func TestCheck(t *testing.T) {
	for _, v := range rising() {
		if err := value.Check(v); err != api.OK {
			t.Errorf("%#v: error %d", v, err)
		}
	}
	for _, n := range numbers() {
		if err := value.Check(value.Int(n)); err != api.OK {
			t.Errorf("%d: error %d", n, err)
		}
	}
	for n := range 200 {
		want := api.OK
		if n > 64 {
			want = api.ErrValue
		}
		for _, s := range []string{"a", "\x00", "\xff"} {
			if err := value.Check(value.Text(strings.Repeat(s, n))); err != want {
				t.Errorf("%d times %q: error %d, not %d", n, s, err, want)
			}
		}
	}
	for _, v := range wrong() {
		if err := value.Check(v); err != api.ErrValue {
			t.Errorf("%#v: error %d", v, err)
		}
	}
}

// P5.1: letters count by their bytes, not by how many they are.
func TestCheckCountsBytes(t *testing.T) {
	for _, q := range []struct {
		text string
		want api.Errno
	}{
		{strings.Repeat("\u00e9", 32), api.OK},
		{strings.Repeat("\u00e9", 33), api.ErrValue},
		{strings.Repeat("\u00e9", 64), api.ErrValue},
	} {
		if err := value.Check(value.Text(q.text)); err != q.want {
			t.Errorf("%d bytes: error %d, not %d", len(q.text), err, q.want)
		}
	}
}

// P5.1: Null to Text make what they say, and Text makes a value of a text that is too long, too.
func TestMade(t *testing.T) {
	long := strings.Repeat("x", 65)
	for i, q := range []struct{ got, want api.Value }{
		{value.Null(), api.Value{Kind: 1}},
		{value.Bool(false), api.Value{Kind: 2}},
		{value.Bool(true), api.Value{Kind: 2, Num: 1}},
		{value.Int(0), api.Value{Kind: 3}},
		{value.Int(-7), api.Value{Kind: 3, Num: -7}},
		{value.Int(math.MinInt64), api.Value{Kind: 3, Num: math.MinInt64}},
		{value.Int(math.MaxInt64), api.Value{Kind: 3, Num: math.MaxInt64}},
		{value.Text(""), api.Value{Kind: 4}},
		{value.Text("a\x00\xff"), api.Value{Kind: 4, Text: "a\x00\xff"}},
		{value.Text(long), api.Value{Kind: 4, Text: long}},
	} {
		if q.got != q.want {
			t.Errorf("%d: %#v, not %#v", i, q.got, q.want)
		}
	}
}

// P5.1: each value against each other one, as they stand in the order.
func TestCompare(t *testing.T) {
	all := rising()
	for i, a := range all {
		for k, b := range all {
			if got := value.Compare(a, b); got != cmp.Compare(i, k) {
				t.Errorf("%#v %#v: %d", a, b, got)
			}
		}
	}
	for _, x := range numbers() {
		for _, y := range numbers() {
			if got := value.Compare(value.Int(x), value.Int(y)); got != cmp.Compare(x, y) {
				t.Fatalf("%d %d: %d", x, y, got)
			}
		}
	}
}

// P5.1: whatever values, those that may not be too, stand by Kind, then Num, then Text.
func TestCompareWhatever(t *testing.T) {
	all := []api.Value{
		{Kind: math.MinInt, Num: 9, Text: "z"}, {Kind: -1, Text: "z"}, {Kind: -1, Num: 1},
		{}, {Text: "a"}, {Text: "b"}, {Num: 1}, {Num: 1, Text: "a"},
		{Kind: api.ValNull, Num: -1, Text: "z"}, {Kind: api.ValNull}, {Kind: api.ValNull, Text: "\x00"}, {Kind: api.ValNull, Num: 7},
		{Kind: api.ValBool, Num: math.MinInt64}, {Kind: api.ValBool, Num: 1}, {Kind: api.ValBool, Num: 2}, {Kind: api.ValBool, Num: 256},
		{Kind: api.ValInt, Num: -5, Text: "b"}, {Kind: api.ValInt, Num: 5}, {Kind: api.ValInt, Num: 5, Text: "a"}, {Kind: api.ValInt, Num: 6},
		{Kind: api.ValText, Num: -1, Text: "z"}, {Kind: api.ValText, Text: "a"}, {Kind: api.ValText, Text: strings.Repeat("a", 64)},
		{Kind: api.ValText, Text: strings.Repeat("a", 65)}, {Kind: api.ValText, Text: strings.Repeat("a", 65) + "\x00"}, {Kind: api.ValText, Num: 1},
		{Kind: 5}, {Kind: 256}, {Kind: 257}, {Kind: 1<<32 + 1}, {Kind: math.MaxInt},
	}
	for i, a := range all {
		for k, b := range all {
			if got := value.Compare(a, b); got != cmp.Compare(i, k) {
				t.Errorf("%#v %#v: %d", a, b, got)
			}
		}
	}
}

package blake_test

import (
	"strings"
	"testing"

	"tallyhouse/api"
	"tallyhouse/blake"
)

// counted is the digest whose bytes are 0, 1, 2, and so on, each moved by the same.
func counted(from int) api.Id {
	var id api.Id
	for i := range id {
		id[i] = byte(from + i)
	}
	return id
}

// P3.3: Text and Parse of digests whose digits are known.
func TestTextKnown(t *testing.T) {
	for i, q := range []struct {
		id   api.Id
		text string
	}{
		{api.Id{}, strings.Repeat("0", 64)},
		{counted(0), "000102030405060708090a0b0c0d0e0f101112131415161718191a1b1c1d1e1f"},
		{counted(0xa0), "a0a1a2a3a4a5a6a7a8a9aaabacadaeafb0b1b2b3b4b5b6b7b8b9babbbcbdbebf"},
		{counted(0xe0), "e0e1e2e3e4e5e6e7e8e9eaebecedeeeff0f1f2f3f4f5f6f7f8f9fafbfcfdfeff"},
		{api.Id{0x12, 31: 0xf0}, "12" + strings.Repeat("00", 30) + "f0"},
	} {
		if got := blake.Text(q.id); got != q.text {
			t.Errorf("%d: Text: %s, not %s", i, got, q.text)
		}
		if got, err := blake.Parse(q.text); got != q.id || err != api.OK {
			t.Errorf("%d: Parse: %x, error %d", i, got, err)
		}
	}
}

// P3.4: Parse of Text is the digest, Text of Parse the text, each byte at each place.
func TestTextThereAndBack(t *testing.T) {
	for place := range 32 {
		for b := range 256 {
			id := counted(place)
			id[place] = byte(b)
			text := blake.Text(id)
			got, err := blake.Parse(text)
			if got != id || err != api.OK {
				t.Fatalf("%x: Parse of Text: %x, error %d", id, got, err)
			}
			if again := blake.Text(got); again != text {
				t.Fatalf("%s: Text of Parse: %s", text, again)
			}
		}
	}
}

// refused fails the test where Parse takes s, or tells anything beside its error.
func refused(t *testing.T, s string) {
	t.Helper()
	if id, err := blake.Parse(s); id != (api.Id{}) || err != api.ErrId {
		t.Errorf("%q: %x, error %d", s, id, err)
	}
}

// P3.3: texts of any other length are refused, though each digit is right.
func TestParseLengths(t *testing.T) {
	refused(t, "ab")
	for n := range 200 {
		if n != 64 {
			refused(t, strings.Repeat("5", n))
		}
	}
	right := blake.Text(counted(7))
	refused(t, right[:63])
	refused(t, right[1:])
	refused(t, right+"0")
	refused(t, "0"+right)
	refused(t, right+"\n")
	refused(t, " "+right)
	refused(t, "0x"+right)
	refused(t, right+right)
}

// P3.3: one byte that is no digit is enough, at each place; a capital letter is none.
func TestParseDigits(t *testing.T) {
	right := []byte(blake.Text(counted(0xa0)))
	for place := range right {
		for b := range 256 {
			s := string(right[:place]) + string([]byte{byte(b)}) + string(right[place+1:])
			if strings.IndexByte("0123456789abcdef", byte(b)) < 0 {
				refused(t, s)
			} else if _, err := blake.Parse(s); err != api.OK {
				t.Errorf("%q: error %d", s, err)
			}
		}
	}
	refused(t, strings.ToUpper(string(right)))
	refused(t, strings.Repeat("A", 64))
	refused(t, strings.Repeat("é", 32))
	refused(t, strings.Repeat("٣", 32))
}

// P3.3: Less goes byte by byte, from the first one on, as bytes without a sign.
func TestLessKnown(t *testing.T) {
	for i, q := range []struct {
		a, b api.Id
		want bool
	}{
		{api.Id{}, api.Id{}, false},
		{api.Id{}, api.Id{31: 1}, true},
		{api.Id{31: 1}, api.Id{}, false},
		{api.Id{0: 1}, api.Id{31: 255}, false},
		{api.Id{31: 255}, api.Id{0: 1}, true},
		{api.Id{127}, api.Id{128}, true},
		{api.Id{255}, api.Id{1}, false},
		{api.Id{5, 1}, api.Id{5, 2}, true},
		{api.Id{5, 2}, api.Id{5, 1, 9}, false},
		{counted(3), counted(3), false},
	} {
		if got := blake.Less(q.a, q.b); got != q.want {
			t.Errorf("%d: Less(%x, %x): %v", i, q.a, q.b, got)
		}
	}
}

// P3.3, P3.4: of two digests one is Less, or both are one; and the order is that of their texts.
func TestLessOfTwo(t *testing.T) {
	var ids []api.Id
	for n := range 60 {
		ids = append(ids, blake.Sum(data(n)))
	}
	for place := range 32 {
		a, b := counted(0), counted(0)
		a[place], b[place] = 254, 255
		ids = append(ids, a, b)
	}
	for _, a := range ids {
		for _, b := range ids {
			met := 0
			for _, holds := range []bool{blake.Less(a, b), blake.Less(b, a), a == b} {
				if holds {
					met++
				}
			}
			if met != 1 {
				t.Errorf("%x, %x: %d of three hold", a, b, met)
			}
			if blake.Less(a, b) != (blake.Text(a) < blake.Text(b)) {
				t.Errorf("%x, %x: not the order of their texts", a, b)
			}
		}
	}
}

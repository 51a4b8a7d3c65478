package table_test

import (
	"slices"
	"strings"
	"testing"

	"tallyhouse/api"
	"tallyhouse/table"
)

// decodes fails the test, unless Decode answers what the model does; it tells which error there is.
func decodes(t *testing.T, call, b string) api.Errno {
	t.Helper()
	got, err := table.Decode([]byte(b))
	want, wrong := modelDecode(b)
	tells(t, call, got, err, want, wrong)
	return err
}

// wrongs fails the test, unless Decode refuses the bytes by that error.
func wrongs(t *testing.T, call, b string, want api.Errno) {
	t.Helper()
	got, err := table.Decode([]byte(b))
	tells(t, call, got, err, api.Store{}, want)
}

// sample has each Type, each mark, each Kind of values, and a table without rows.
func sample() api.Store {
	return of(
		tab("t", "a BOOL MUST, bc INT KEY, d TEXT", row(true, -1, nil), row(false, 1, "x\x00y")),
		tab("t2", "k TEXT KEY, b BOOL", row("", nil), row("a", true)),
		tab("u", "k BOOL KEY"),
	)
}

const sampleBytes = "\x03" +
	"\x01t" + "\x03" + "\x01a\x02\x01" + "\x02bc\x03\x02" + "\x01d\x04\x00" +
	"\x02" + "\x02\x01" + "\x03\x7f\xff\xff\xff\xff\xff\xff\xff" + "\x01" + "\x02\x00" + "\x03\x80\x00\x00\x00\x00\x00\x00\x01" + "\x04x\x00\xffy\x00\x00" +
	"\x02t2" + "\x02" + "\x01k\x04\x02" + "\x01b\x02\x00" +
	"\x02" + "\x04\x00\x00" + "\x01" + "\x04a\x00\x00" + "\x02\x01" +
	"\x01u" + "\x01" + "\x01k\x02\x02" + "\x00"

// P12.6: Encode and Decode by hand.
func TestBytesByHand(t *testing.T) {
	b, err := table.Encode(sample())
	if err != api.OK || string(b) != sampleBytes {
		t.Errorf("Encode: %d %q", err, b)
	}
	s, err := table.Decode([]byte(sampleBytes))
	tells(t, "Decode", s, err, sample(), api.OK)
	b, err = table.Encode(api.Store{})
	if err != api.OK || string(b) != "\x00" {
		t.Errorf("Encode: %d %q", err, b)
	}
	s, err = table.Decode([]byte{0})
	tells(t, "Decode of none", s, err, api.Store{}, api.OK)
}

// P12.6: Encode of all tables that may be, and Decode of that.
func TestEncode(t *testing.T) {
	for why, s := range goodStores() {
		b, err := table.Encode(s)
		if err != api.OK || string(b) != modelBytes(s) {
			t.Errorf("%s: %d %q", why, err, b)
		}
		got, err := table.Decode(b)
		tells(t, why, got, err, s, api.OK)
	}
	for why, s := range badStores() {
		if b, err := table.Encode(s); err != api.ErrStore || len(b) > 0 {
			t.Errorf("%s: %d %q", why, err, b)
		}
	}
}

// P12.6: each beginning is ErrShort, and one byte more ErrStore.
func TestDecodeOfLessAndMore(t *testing.T) {
	for why, s := range goodStores() {
		b := modelBytes(s)
		for i := range b {
			wrongs(t, why, b[:i], api.ErrShort)
		}
		for more := range 256 {
			wrongs(t, why, b+string([]byte{byte(more)}), api.ErrStore)
		}
		wrongs(t, why+", twice", b+b, api.ErrStore)
	}
	wrongs(t, "nothing", "", api.ErrShort)
	wrongs(t, "one byte behind none", "\x00\x00", api.ErrStore)
}

// P12.6: each byte changed into each other one, left out, or with another one ahead of it.
func TestDecodeOfSpoilt(t *testing.T) {
	met := map[api.Errno]int{}
	for _, b := range []string{sampleBytes, "\x00", modelBytes(of(plain("t", 3))), modelBytes(of(tab("ab", two, row(1, "it"), row(2, nil)), plain("b", 2)))} {
		for i := range b {
			met[decodes(t, "left out", b[:i]+b[i+1:])]++
			for c := range 256 {
				one := string([]byte{byte(c)})
				met[decodes(t, "changed", b[:i]+one+b[i+1:])]++
				met[decodes(t, "one more", b[:i]+one+b[i:])]++
			}
		}
	}
	if met[api.OK] < 1000 || met[api.ErrShort] < 1000 || met[api.ErrStore] < 1000 || len(met) > 3 {
		t.Error(met)
	}
}

// hasBytes tells whether the model can say tables' bytes.
func hasBytes(s api.Store) bool {
	if len(s.Tables) > 255 {
		return false
	}
	for _, t := range s.Tables {
		if len(t.Name) > 255 || len(t.Columns) > 255 || len(t.Rows) > 255 {
			return false
		}
		for _, c := range t.Columns {
			if len(c.Name) > 255 || c.Type < 0 || c.Type > 255 {
				return false
			}
		}
		for _, r := range t.Rows {
			if len(r) != len(t.Columns) || slices.ContainsFunc(r, func(v api.Value) bool { return !modelValue(v) }) {
				return false
			}
		}
	}
	return true
}

// P12.6: bytes of tables that may not be are ErrStore; less of them is ErrShort.
func TestDecodeOfBadTables(t *testing.T) {
	tried := 0
	for why, s := range badStores() {
		if !hasBytes(s) {
			continue
		}
		tried++
		b := modelBytes(s)
		if strings.Contains(why, "Key and NotNull") {
			wrongs(t, why, strings.Replace(b, "\x03\x02", "\x03\x03", 1), api.ErrStore)
			continue
		}
		wrongs(t, why, b, api.ErrStore)
		for i := range b {
			wrongs(t, why, b[:i], api.ErrShort)
		}
	}
	if tried < 200 {
		t.Errorf("only %d", tried)
	}
}

// P12.6: of both errors that there may be ErrShort goes ahead, but for a value that is wrong.
func TestDecodeWhichError(t *testing.T) {
	head := "\x01\x01t\x02\x01a\x03\x02\x01b\x04\x00"
	one := "\x03\x80\x00\x00\x00\x00\x00\x00\x01"
	for _, x := range []struct {
		call, b string
		want    api.Errno
	}{
		{"no rows", head + "\x00", api.OK},
		{"a row", head + "\x01" + one + "\x01", api.OK},
		{"five tables, the second one is missing", "\x05\x01t\x01\x01a\x03\x02\x00", api.ErrShort},
		{"five tables", "\x05" + strings.Repeat("\x01t\x01\x01a\x03\x02\x00", 5), api.ErrStore},
		{"255 tables", "\xff" + strings.Repeat("\x01t\x01\x01a\x03\x02\x00", 254), api.ErrShort},
		{"255 tables, all there", "\xff" + strings.Repeat("\x01t\x01\x01a\x03\x02\x00", 255), api.ErrStore},
		{"no name, and the end", "\x01\x00\x01\x01a\x03\x02", api.ErrShort},
		{"no name", "\x01\x00\x01\x01a\x03\x02\x00", api.ErrStore},
		{"a name that is too long, and the end", "\x01\xff" + strings.Repeat("n", 254), api.ErrShort},
		{"a name that is too long", "\x01\xff" + strings.Repeat("n", 255) + "\x01\x01a\x03\x02\x00", api.ErrStore},
		{"no columns, no rows", "\x01\x01t\x00\x00", api.ErrStore},
		{"no columns, rows of none", "\x01\x01t\x00\xff", api.ErrStore},
		{"no columns, the end", "\x01\x01t\x00", api.ErrShort},
		{"seven columns, the end", "\x01\x01t\x07\x01a\x03\x02", api.ErrShort},
		{"a wrong Type, the end", "\x01\x01t\x01\x01a\x09\x02", api.ErrShort},
		{"a wrong Type", "\x01\x01t\x01\x01a\x09\x02\x00", api.ErrStore},
		{"a wrong mark, the end", "\x01\x01t\x01\x01a\x03\x03", api.ErrShort},
		{"a wrong mark", "\x01\x01t\x01\x01a\x03\x03\x00", api.ErrStore},
		{"another wrong mark", "\x01\x01t\x02\x01a\x03\x02\x01b\x03\xff\x00", api.ErrStore},
		{"41 rows, the end", head + "\x29" + strings.Repeat(one+"\x01", 40), api.ErrShort},
		{"41 rows", head + "\x29" + strings.Repeat(one+"\x01", 41), api.ErrStore},
		{"one key twice, the end", head + "\x03" + one + "\x01" + one + "\x01", api.ErrShort},
		{"one key twice", head + "\x02" + one + "\x01" + one + "\x01", api.ErrStore},
		{"another Kind, the end", head + "\x01" + "\x02\x01", api.ErrShort},
		{"another Kind", head + "\x01" + "\x02\x01\x01", api.ErrStore},
		{"a wrong Kind, the end", head + "\x01\x05", api.ErrStore},
		{"Kind 0, the end", head + "\x01\x00", api.ErrStore},
		{"a wrong Kind, far ahead of the end", head + "\xff" + one + "\x05", api.ErrStore},
		{"a wrong bool, the end", head + "\x01\x02\x02", api.ErrStore},
		{"a bool without a byte", head + "\x01\x02", api.ErrShort},
		{"a number of seven bytes", head + "\x01\x03" + strings.Repeat("\x05", 7), api.ErrShort},
		{"a nought in a text, the end", head + "\x01" + one + "\x04\x00", api.ErrShort},
		{"a nought in a text, and another byte", head + "\x01" + one + "\x04\x00\x01", api.ErrStore},
		{"a text of 64 bytes, the end", head + "\x01" + one + "\x04" + strings.Repeat("x", 64), api.ErrShort},
		{"a text of 65 bytes, the end", head + "\x01" + one + "\x04" + strings.Repeat("x", 65), api.ErrStore},
		{"a wrong value in five tables", "\x05" + head[1:] + "\x01\x09", api.ErrStore},
		{"a wrong value, and more behind", head + "\x01\x09" + one, api.ErrStore},
		{"a wrong value behind no name", "\x01\x00\x01\x01a\x03\x02\x01\x09", api.ErrStore},
		{"a wrong value in the second row", head + "\x02" + one + "\x01" + one + "\x06", api.ErrStore},
	} {
		if err := decodes(t, x.call, x.b); err != x.want {
			t.Errorf("%s: %d, not %d", x.call, err, x.want)
		}
	}
}

// P12.6: Decode ends at whatever bytes.
func TestDecodeOfGreat(t *testing.T) {
	for _, b := range []string{strings.Repeat("\xff", 1<<16), strings.Repeat("\x00", 1<<16), strings.Repeat("\x01", 1<<16), strings.Repeat("\x04", 1<<16)} {
		for i := range 8 {
			decodes(t, "great", b[i:])
			decodes(t, "great", "\xff\x01t\x01\x01a\x03\x02\xff"+b[i:])
		}
	}
	// No columns, and all rows that a count can say, in all tables.
	wrongs(t, "rows of nothing", "\xff"+strings.Repeat("\x00\x00\xff", 255), api.ErrStore)
}

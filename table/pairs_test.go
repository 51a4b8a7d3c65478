package table_test

import (
	"math"
	"strings"
	"testing"

	"tallyhouse/api"
	"tallyhouse/table"
)

// alike fails the test, unless both are the same pairs in the same order.
func alike(t *testing.T, call string, got, want []api.Cell) {
	t.Helper()
	for i := range max(len(got), len(want)) {
		if i >= len(got) || i >= len(want) || got[i] != want[i] {
			t.Errorf("%s: %q; not %q", call, got, want)
			return
		}
	}
}

// P12.5: Pairs by hand: all tables' own ones stand ahead of all rows.
func TestPairsByHand(t *testing.T) {
	s := of(
		tab("t", "a BOOL MUST, bc INT KEY, d TEXT", row(true, -1, nil), row(false, 1, "x\x00")),
		tab("t2", "k TEXT KEY", row("a\x00b")),
		tab("u", "k BOOL KEY"),
	)
	alike(t, "Pairs", table.Pairs(s), []api.Cell{
		{Key: "\x01t\x00", Value: "\x03" + "\x01a\x02\x01" + "\x02bc\x03\x02" + "\x01d\x04\x00"},
		{Key: "\x01t2\x00", Value: "\x01" + "\x01k\x04\x02"},
		{Key: "\x01u\x00", Value: "\x01" + "\x01k\x02\x02"},
		{Key: "\x02t\x00\x03\x7f\xff\xff\xff\xff\xff\xff\xff", Value: "\x02\x01" + "\x03\x7f\xff\xff\xff\xff\xff\xff\xff" + "\x01"},
		{Key: "\x02t\x00\x03\x80\x00\x00\x00\x00\x00\x00\x01", Value: "\x02\x00" + "\x03\x80\x00\x00\x00\x00\x00\x00\x01" + "\x04x\x00\xff\x00\x00"},
		{Key: "\x02t2\x00\x04a\x00\xffb\x00\x00", Value: "\x04a\x00\xffb\x00\x00"},
	})
}

// P12.5: Pairs of all tables that may be; nothing of others.
func TestPairs(t *testing.T) {
	for why, s := range goodStores() {
		alike(t, why, table.Pairs(s), modelPairs(s))
	}
	for why, s := range badStores() {
		alike(t, why, table.Pairs(s), nil)
	}
}

// P12.5: RowKey is of whatever name, and of each value that may be.
func TestRowKey(t *testing.T) {
	for _, name := range []string{"t", "", longest(""), longest("") + longest(""), "select", "a\x00b", "\xff", strings.Repeat("n", 70000)} {
		for _, v := range row(nil, true, false, 0, 1, -1, num(math.MinInt64), num(math.MaxInt64), "", "a", "\x00", "a\x00\xff", strings.Repeat("\x00", 64)) {
			if got, want := table.RowKey(name, v), "\x02"+name+"\x00"+modelSaid(v); got != want {
				t.Errorf("%.30q %s: %.60q", name, saidRow(row(v)), got)
			}
		}
		for why, bad := range badValues() {
			if got := table.RowKey(name, bad); got != "" {
				t.Errorf("%.30q %s: %.60q", name, why, got)
			}
		}
	}
}

// P12.5: RowBytes is of whatever values that may be, one behind the other.
func TestRowBytes(t *testing.T) {
	long := row()
	for i := range 1000 {
		long = append(long, row(i, "x", nil, true)...)
	}
	for _, r := range rows(nil, row(), row(nil), row(nil, nil), row(1), row("a", "b"), row("ab", ""), row(true, 7, "\x00x", nil, -7), row(true, true, true, true, true, true, true), long) {
		if got := table.RowBytes(r); got != modelRowBytes(r) {
			t.Errorf("%.200s: %.200q", saidRow(r), got)
		}
	}
	for why, bad := range badValues() {
		for _, r := range rows(row(bad), row(bad, 1), row(1, bad), row("x", bad, nil)) {
			if got := table.RowBytes(r); got != "" {
				t.Errorf("%s: %q", why, got)
			}
		}
	}
}

// badValues may not be (5).
func badValues() map[string]api.Value {
	return map[string]api.Value{
		"nothing":           {},
		"Kind -1":           {Kind: -1},
		"Kind 5":            {Kind: 5},
		"Kind 257":          {Kind: 257},
		"null with Num":     {Kind: 1, Num: 1},
		"null with Text":    {Kind: 1, Text: "x"},
		"a bool of 2":       {Kind: 2, Num: 2},
		"a bool of -1":      {Kind: 2, Num: -1},
		"a bool with Text":  {Kind: 2, Text: "x"},
		"a number and Text": {Kind: 3, Num: 1, Text: "x"},
		"a text and Num":    {Kind: 4, Num: 1, Text: "x"},
		"a text too long":   {Kind: 4, Text: strings.Repeat("x", 65)},
	}
}

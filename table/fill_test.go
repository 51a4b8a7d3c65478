package table_test

import (
	"fmt"
	"strings"
	"testing"

	"tallyhouse/api"
	"tallyhouse/table"
)

// numbered are rows of the keys from one on to another one.
func numbered(from, to int) [][]api.Value {
	var out [][]api.Value
	for i := from; i <= to; i++ {
		out = append(out, row(i))
	}
	return out
}

// around is the table between two others, so that these are seen to stay.
func around(t api.Table) api.Store {
	return of(plain("A", 3), t, plain("zz", 2))
}

// P12.3: Insert puts rows where their keys stand; other tables stay.
func TestInsert(t *testing.T) {
	there := rows(row(2, "b"), row(4, nil), row(6, "b"))
	for _, x := range []struct {
		more, want [][]api.Value
	}{
		{nil, there},
		{rows(), there},
		{rows(row(1, "z")), rows(row(1, "z"), there[0], there[1], there[2])},
		{rows(row(7, nil)), rows(there[0], there[1], there[2], row(7, nil))},
		{rows(row(5, "")), rows(there[0], there[1], row(5, ""), there[2])},
		{rows(row(9, "a"), row(3, "c"), row(-1, "d"), row(8, "b")), rows(row(-1, "d"), there[0], row(3, "c"), there[1], there[2], row(8, "b"), row(9, "a"))},
	} {
		got, err := table.Insert(around(tab("t", two, there...)), "t", x.more)
		tells(t, fmt.Sprint(x.more), got, err, around(tab("t", two, x.want...)), api.OK)
	}
	got, err := table.Insert(of(plain("t", 0)), "t", numbered(1, 40))
	tells(t, "MaxRows at once", got, err, of(plain("t", 40)), api.OK)
	got, err = table.Insert(of(plain("t", 39)), "t", numbered(40, 40))
	tells(t, "the last one", got, err, of(plain("t", 40)), api.OK)
	got, err = table.Insert(of(plain("t", 40)), "t", nil)
	tells(t, "none beside MaxRows", got, err, of(plain("t", 40)), api.OK)
	got, err = table.Insert(of(tab("t", "a TEXT, b BOOL KEY", row("z", false))), "t", rows(row("a", true)))
	tells(t, "the key is not first", got, err, of(tab("t", "a TEXT, b BOOL KEY", row("z", false), row("a", true))), api.OK)
}

// P12.3: Replace leaves the rows that are handed in alone; other tables stay.
func TestReplace(t *testing.T) {
	there := rows(row(2, "b"), row(4, nil))
	for _, x := range []struct {
		more, want [][]api.Value
	}{
		{nil, nil},
		{rows(), nil},
		{there, there},
		{rows(row(4, "x"), row(2, "y")), rows(row(2, "y"), row(4, "x"))},
		{rows(row(3, "a")), rows(row(3, "a"))},
		{rows(row(9, "a"), row(2, "c"), row(-1, nil)), rows(row(-1, nil), row(2, "c"), row(9, "a"))},
	} {
		got, err := table.Replace(around(tab("t", two, there...)), "t", x.more)
		tells(t, fmt.Sprint(x.more), got, err, around(tab("t", two, x.want...)), api.OK)
	}
	for _, n := range []int{0, 1, 40} {
		got, err := table.Replace(of(plain("t", n)), "t", numbered(1, 40))
		tells(t, "MaxRows", got, err, of(plain("t", 40)), api.OK)
	}
}

// refused is what Insert and Replace answer of the same rows to the table t, whose rows are 1 to so many.
type refused struct {
	call            string
	there           int
	name            string
	rows            [][]api.Value
	insert, replace api.Errno
}

// P12.3: what Insert and Replace refuse, and which error goes ahead.
func TestInsertAndReplaceRefused(t *testing.T) {
	over, twice, bad := numbered(100, 140), rows(row(7), row(8), row(7)), rows(row(9), row("x"))
	for _, x := range []refused{
		{"no such table", 3, "u", numbered(4, 5), api.ErrNone, api.ErrNone},
		{"a name in another case", 3, "T", nil, api.ErrNone, api.ErrNone},
		{"no name", 3, "", nil, api.ErrNone, api.ErrNone},
		{"no such table, no rows of one", 3, "u", rows(nil), api.ErrNone, api.ErrNone},
		{"no such table, too many", 3, "u", over, api.ErrNone, api.ErrNone},
		{"no such table, one key twice", 3, "u", twice, api.ErrNone, api.ErrNone},
		{"one key twice", 3, "t", rows(row(7), row(7)), api.ErrThere, api.ErrThere},
		{"one key twice, not side by side", 3, "t", twice, api.ErrThere, api.ErrThere},
		{"one key twice, of no rows", 0, "t", twice, api.ErrThere, api.ErrThere},
		{"the key of a row that is there", 3, "t", rows(row(2)), api.ErrThere, api.OK},
		{"the last one's key is there", 3, "t", rows(row(9), row(8), row(3)), api.ErrThere, api.OK},
		{"the first one's key is there", 3, "t", rows(row(1), row(8), row(9)), api.ErrThere, api.OK},
		{"more than MaxRows", 0, "t", over, api.ErrFull, api.ErrFull},
		{"more than MaxRows, with those there", 3, "t", numbered(4, 41), api.ErrFull, api.OK},
		{"one more", 40, "t", numbered(41, 41), api.ErrFull, api.OK},
		{"more, and one key twice", 3, "t", append(numbered(100, 140), row(120)), api.ErrThere, api.ErrThere},
		{"more, and a key that is there", 3, "t", append(numbered(100, 138), row(2)), api.ErrThere, api.OK},
		{"beside MaxRows one that is there", 40, "t", rows(row(40)), api.ErrThere, api.OK},
		{"no row, one key twice", 3, "t", append(bad, row(9)), api.ErrRow, api.ErrRow},
		{"no row, a key that is there", 3, "t", append(rows(row(2)), bad...), api.ErrRow, api.ErrRow},
		{"no row, more", 3, "t", append(numbered(100, 141), nil), api.ErrRow, api.ErrRow},
		{"no row, first", 3, "t", append(rows(row(nil)), over...), api.ErrRow, api.ErrRow},
		{"no row ahead of all", 40, "t", append(append(numbered(1, 41), row(1)), row(1, 1)), api.ErrRow, api.ErrRow},
	} {
		s := of(plain("t", x.there))
		want := of(plain("t", x.there))
		want.Tables[0].Rows, _ = sorted(x.rows)
		got, err := table.Insert(s, x.name, x.rows)
		tells(t, "Insert: "+x.call, got, err, api.Store{}, x.insert)
		got, err = table.Replace(s, x.name, x.rows)
		tells(t, "Replace: "+x.call, got, err, want, x.replace)
	}
}

// sorted is rows of one number each in order, if these are such rows.
func sorted(l [][]api.Value) ([][]api.Value, bool) {
	s, err := modelFill(of(plain("t", 0)), "t", l, true)
	if err != api.OK {
		return nil, false
	}
	return s.Tables[0].Rows, true
}

// P12.3: Insert and Replace of what is no row of the table.
func TestNoRow(t *testing.T) {
	s := of(tab("t", three, row(true, 1, "x")))
	for why, bad := range badRows() {
		for _, l := range [][][]api.Value{rows(bad), rows(row(true, 2, "x"), bad), rows(bad, row(true, 2, "x")), rows(row(true, 2, "x"), bad, row(true, 2, "x"))} {
			got, err := table.Insert(s, "t", l)
			tells(t, "Insert: "+why, got, err, api.Store{}, api.ErrRow)
			got, err = table.Replace(s, "t", l)
			tells(t, "Replace: "+why, got, err, api.Store{}, api.ErrRow)
		}
	}
}

// P12.3: Delete takes the rows of these keys away, and counts each once.
func TestDelete(t *testing.T) {
	there := rows(row(-3, "b"), row(0, nil), row(1, "b"), row(6, "1"))
	for _, x := range []struct {
		keys []api.Value
		want [][]api.Value
		gone int
	}{
		{nil, there, 0},
		{row(), there, 0},
		{row(2, 7, -1), there, 0},
		{row(0), rows(there[0], there[2], there[3]), 1},
		{row(0, 0, 0), rows(there[0], there[2], there[3]), 1},
		{row(6, -3), there[1:3], 2},
		{row(-3, 0, 1, 6, 7, -3), nil, 4},
		{row(nil, true, false, "1", "", "b"), there, 0},
		{row(api.Value{Kind: 3, Num: 1, Text: "x"}, api.Value{Kind: 4, Num: 1}, api.Value{Num: 1}, api.Value{Kind: 99}, api.Value{Kind: -1}), there, 0},
		{row(api.Value{}, strings.Repeat("x", 65), 1, nil), rows(there[0], there[1], there[3]), 1},
	} {
		got, gone, err := table.Delete(around(tab("t", two, there...)), "t", x.keys)
		tells(t, saidRow(x.keys), got, err, around(tab("t", two, x.want...)), api.OK)
		if gone != x.gone {
			t.Errorf("%s: %d have gone", saidRow(x.keys), gone)
		}
	}
	texts := tab("t", "a INT, b TEXT KEY", row(1, ""), row(2, "a"), row(3, "b"))
	got, gone, err := table.Delete(of(texts), "t", row("a", 1, 3, "A"))
	tells(t, "texts", got, err, of(tab("t", "a INT, b TEXT KEY", row(1, ""), row(3, "b"))), api.OK)
	if gone != 1 {
		t.Errorf("%d have gone", gone)
	}
	all := row()
	for i := range 1000 {
		all = append(all, num(int64(i)))
	}
	got, gone, err = table.Delete(of(plain("t", 40)), "t", all)
	tells(t, "more keys than there are rows", got, err, of(plain("t", 0)), api.OK)
	if gone != 40 {
		t.Errorf("%d have gone", gone)
	}
}

// P12.3: Delete of rows of a table that is not there.
func TestDeleteRefused(t *testing.T) {
	for _, name := range []string{"", "T", "u", "s", "tt"} {
		got, gone, err := table.Delete(around(plain("t", 3)), name, row(1, 2))
		tells(t, name, got, err, api.Store{}, api.ErrNone)
		if gone != 0 {
			t.Errorf("%s: %d have gone", name, gone)
		}
	}
}

// P12.3: of tables that may not be ErrStore goes ahead of all else.
func TestFillOfNoTables(t *testing.T) {
	for why, bad := range badStores() {
		for _, name := range []string{"a", "t", "zz", "none", ""} {
			for _, l := range [][][]api.Value{nil, rows(row(77)), rows(nil), rows(row(77), row(77)), numbered(100, 150)} {
				got, err := table.Insert(bad, name, l)
				tells(t, "Insert: "+why, got, err, api.Store{}, api.ErrStore)
				got, err = table.Replace(bad, name, l)
				tells(t, "Replace: "+why, got, err, api.Store{}, api.ErrStore)
			}
			got, gone, err := table.Delete(bad, name, row(1, 2))
			tells(t, "Delete: "+why, got, err, api.Store{}, api.ErrStore)
			if gone != 0 {
				t.Errorf("%s: %d have gone", why, gone)
			}
		}
	}
}

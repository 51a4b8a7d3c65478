package table_test

import (
	"testing"

	"tallyhouse/api"
	"tallyhouse/table"
)

// The chapter's examples, one behind the other.
func TestExamples(t *testing.T) {
	s, err := table.Create(api.Store{}, tab("t", two))
	tells(t, "Create(T)", s, err, of(tab("t", two)), api.OK)
	s, err = table.Insert(s, "t", rows(row(2, "x"), row(1, nil)))
	full := of(tab("t", two, row(1, nil), row(2, "x")))
	tells(t, "Insert", s, err, full, api.OK)
	if got, ok := table.Find(s, "t"); !ok || saidTable(got) != saidTable(full.Tables[0]) {
		t.Errorf("Find: %v %s", ok, saidTable(got))
	}

	out, err := table.Insert(s, "t", rows(row(2, "y")))
	tells(t, "Insert (2, y)", out, err, full, api.ErrThere)
	out, err = table.Insert(s, "t", rows(row("x", 1)))
	tells(t, "Insert (x, 1)", out, err, full, api.ErrRow)
	out, err = table.Insert(s, "u", rows(row(2, "y")))
	tells(t, "Insert(u)", out, err, full, api.ErrNone)

	out, err = table.Create(s, tab("t", two))
	tells(t, "Create(T) again", out, err, full, api.ErrThere)
	out, err = table.Create(s, tab("u", "a INT, b TEXT"))
	tells(t, "Create without a key", out, err, full, api.ErrTable)

	s, gone, err := table.Delete(s, "t", row(2, 7))
	tells(t, "Delete(t, 2, 7)", s, err, of(tab("t", two, row(1, nil))), api.OK)
	if gone != 1 {
		t.Errorf("%d have gone", gone)
	}
	if got, ok := table.Get(s, "t", num(2)); ok || len(got) > 0 {
		t.Errorf("Get(t, 2): %s", saidRow(got))
	}
	if got, want := table.RowKey("t", num(1)), "\x02\x74\x00\x03\x80\x00\x00\x00\x00\x00\x00\x01"; got != want {
		t.Errorf("RowKey: % x", got)
	}
}

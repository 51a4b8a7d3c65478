package table_test

import (
	"testing"

	"tallyhouse/api"
	"tallyhouse/table"
)

// P12.1: Check and CheckTable tell what may be.
func TestCheckOfWhatMayBe(t *testing.T) {
	for why, x := range goodTables() {
		if err := table.CheckTable(x); err != api.OK {
			t.Errorf("%s: CheckTable: %d", why, err)
		}
	}
	for why, s := range goodStores() {
		if err := table.Check(s); err != api.OK {
			t.Errorf("%s: Check: %d", why, err)
		}
	}
}

// P12.1: Check is ErrStore, CheckTable ErrTable, of what may not be.
func TestCheckOfWhatMayNotBe(t *testing.T) {
	for why, x := range badTables() {
		if err := table.CheckTable(x); err != api.ErrTable {
			t.Errorf("%s: CheckTable: %d", why, err)
		}
	}
	for why, s := range badStores() {
		if err := table.Check(s); err != api.ErrStore {
			t.Errorf("%s: Check: %d", why, err)
		}
	}
}

// P12.1: CheckRow tells rows of a table, whatever rows this has.
func TestCheckRow(t *testing.T) {
	x := tab("t", three, row(true, 1, "x"))
	for _, good := range rows(row(true, 1, "x"), row(false, 2, nil), row(true, -7, "")) {
		if err := table.CheckRow(x, good); err != api.OK {
			t.Errorf("%s: %d", saidRow(good), err)
		}
	}
	for why, bad := range badRows() {
		if err := table.CheckRow(x, bad); err != api.ErrRow {
			t.Errorf("%s: %d", why, err)
		}
	}
	if err := table.CheckRow(plain("t", 40), row(41)); err != api.OK {
		t.Errorf("beside MaxRows rows: %d", err)
	}
}

// P12.1: CheckRow of a table that may not be is ErrTable, of what is no row, too.
func TestCheckRowOfNoTable(t *testing.T) {
	for why, x := range badTables() {
		for _, some := range append([][]api.Value{row(true, 1, "x"), row(1), row(1, "x"), nil}, x.Rows...) {
			if err := table.CheckRow(x, some); err != api.ErrTable {
				t.Errorf("%s, %s: %d", why, saidRow(some), err)
			}
		}
	}
}

// P12.1: Same is true of what is said alike, whether it may be or not, and of nothing else.
func TestSame(t *testing.T) {
	full := of(tab("t", "a INT KEY, b TEXT MUST, c BOOL", row(1, "x", nil), row(2, "y", true)), tab("u", two))
	others := map[string]func(s *api.Store){
		"one table less":         func(s *api.Store) { s.Tables = s.Tables[:1] },
		"no tables":              func(s *api.Store) { s.Tables = nil },
		"one table more":         func(s *api.Store) { s.Tables = append(s.Tables, api.Table{}) },
		"tables in another row":  func(s *api.Store) { s.Tables[0], s.Tables[1] = s.Tables[1], s.Tables[0] },
		"a table's name":         func(s *api.Store) { s.Tables[1].Name = "U" },
		"one column less":        func(s *api.Store) { s.Tables[0].Columns = s.Tables[0].Columns[:2] },
		"one column more":        func(s *api.Store) { s.Tables[1].Columns = append(s.Tables[1].Columns, api.Defined{}) },
		"columns in another row": func(s *api.Store) { c := s.Tables[0].Columns; c[1], c[2] = c[2], c[1] },
		"a column's name":        func(s *api.Store) { s.Tables[0].Columns[2].Name = "d" },
		"a column's Type":        func(s *api.Store) { s.Tables[0].Columns[2].Type = 3 },
		"a column's Key":         func(s *api.Store) { s.Tables[0].Columns[0].Key = false },
		"a column's NotNull":     func(s *api.Store) { s.Tables[0].Columns[1].NotNull = false },
		"one row less":           func(s *api.Store) { s.Tables[0].Rows = s.Tables[0].Rows[:1] },
		"one row more":           func(s *api.Store) { s.Tables[1].Rows = rows(nil) },
		"rows in another row":    func(s *api.Store) { r := s.Tables[0].Rows; r[0], r[1] = r[1], r[0] },
		"one value less":         func(s *api.Store) { r := s.Tables[0].Rows; r[0] = r[0][:2] },
		"one value more":         func(s *api.Store) { r := s.Tables[0].Rows; r[1] = append(r[1], null) },
		"a value's Kind":         func(s *api.Store) { s.Tables[0].Rows[0][2].Kind = 2 },
		"a value's Num":          func(s *api.Store) { s.Tables[0].Rows[1][0].Num = 3 },
		"a value's Text":         func(s *api.Store) { s.Tables[0].Rows[1][1].Text = "z" },
		"what does not count":    func(s *api.Store) { s.Tables[0].Rows[1][1].Num = 1 },
	}
	for why, change := range others {
		other := deep(full)
		change(&other)
		if table.Same(full, other) || table.Same(other, full) || !table.Same(other, deep(other)) {
			t.Errorf("%s: %v %v %v", why, table.Same(full, other), table.Same(other, full), table.Same(other, deep(other)))
		}
	}
	if !table.Same(full, deep(full)) || !table.Same(api.Store{}, api.Store{Tables: []api.Table{}}) {
		t.Error("what is the same is not")
	}
	if a, b := of(api.Table{Name: "t"}), of(api.Table{Name: "t", Columns: []api.Defined{}, Rows: [][]api.Value{}}); !table.Same(a, b) || !table.Same(b, a) {
		t.Error("nil and empty lists are not one")
	}
	if a, b := of(tab("t", two, nil)), of(tab("t", two, []api.Value{})); !table.Same(a, b) || !table.Same(b, a) {
		t.Error("nil and empty rows are not one")
	}
}

// P12.1: Same of whatever tables is what they say.
func TestSameOfAll(t *testing.T) {
	var all []api.Store
	var texts []string
	for _, lists := range []map[string]api.Store{goodStores(), badStores()} {
		for _, a := range lists {
			text := said(a)
			if !table.Same(a, deep(a)) {
				t.Errorf("%s is not the same", text)
			}
			for i, b := range all {
				if table.Same(a, b) != (text == texts[i]) {
					t.Errorf("%s and %s: %v", text, texts[i], table.Same(a, b))
				}
			}
			all, texts = append(all, a), append(texts, text)
		}
	}
}

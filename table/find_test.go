package table_test

import (
	"fmt"
	"slices"
	"strings"
	"testing"

	"tallyhouse/api"
	"tallyhouse/table"
)

// P12.4: Find tells each table that there is, and no other.
func TestFind(t *testing.T) {
	for why, s := range goodStores() {
		for _, x := range s.Tables {
			if got, ok := table.Find(s, x.Name); !ok || saidTable(got) != saidTable(x) {
				t.Errorf("%s: %s: %v %s", why, x.Name, ok, saidTable(got))
			}
		}
		for _, name := range []string{"", "A", "Z", "zz", "0", "s", "\x00", "select", "a\x00", "t ", strings.Repeat("t", 300)} {
			if got, ok := table.Find(s, name); ok || saidTable(got) != saidTable(api.Table{}) {
				t.Errorf("%s: %s: %v %s", why, name, ok, saidTable(got))
			}
		}
	}
}

// P12.4: Get tells each row by its key, and no other.
func TestGet(t *testing.T) {
	for why, s := range goodStores() {
		for _, x := range s.Tables {
			key := modelKey(x.Columns)
			for _, r := range x.Rows {
				if got, ok := table.Get(s, x.Name, r[key]); !ok || saidRow(got) != saidRow(r) {
					t.Errorf("%s: %s: %v %s", why, saidRow(r), ok, saidRow(got))
				}
				v := r[key]
				for _, none := range row(api.Value{Kind: v.Kind + 1, Num: v.Num, Text: v.Text}, api.Value{Kind: v.Kind, Num: v.Num + 1000, Text: v.Text}, api.Value{Kind: v.Kind, Num: v.Num, Text: v.Text + "!"}) {
					if got, ok := table.Get(s, x.Name, none); ok || len(got) > 0 {
						t.Errorf("%s: %s: %s", why, saidRow(row(none)), saidRow(got))
					}
				}
			}
			for _, none := range row(nil, api.Value{}, 1000, -1000, "none", api.Value{Kind: 9}, api.Value{Kind: -9}) {
				if got, ok := table.Get(s, x.Name, none); ok || len(got) > 0 {
					t.Errorf("%s: %s: %s", why, saidRow(row(none)), saidRow(got))
				}
			}
		}
	}
	for _, name := range []string{"u", "T", "", "tt", "A"} {
		if got, ok := table.Get(of(plain("t", 3), plain("tu", 3)), name, num(1)); ok || len(got) > 0 {
			t.Errorf("%s: %s", name, saidRow(got))
		}
	}
}

// P12.4: Find and Get of tables that may not be tell nothing.
func TestFindOfNoTables(t *testing.T) {
	for why, s := range badStores() {
		for _, x := range slices.Concat(s.Tables[:min(5, len(s.Tables))], []api.Table{{Name: "none"}}) {
			if got, ok := table.Find(s, x.Name); ok || saidTable(got) != saidTable(api.Table{}) {
				t.Errorf("%s: Find: %s", why, saidTable(got))
			}
			for _, key := range row(1, "x", nil, true) {
				if got, ok := table.Get(s, x.Name, key); ok || len(got) > 0 {
					t.Errorf("%s: Get: %s", why, saidRow(got))
				}
			}
		}
	}
}

// P12.4: Column and Key tell the first one, of whatever table.
func TestColumnAndKey(t *testing.T) {
	odd := api.Table{Name: "1", Columns: []api.Defined{{Name: "b"}, {Name: "a", Type: 77}, {Name: "", Key: true, NotNull: true}, {Name: "a", Key: true}, {Name: "A"}}, Rows: rows(row(1))}
	for _, x := range []struct {
		t    api.Table
		name string
		at   int
		ok   bool
	}{
		{odd, "a", 1, true},
		{odd, "b", 0, true},
		{odd, "", 2, true},
		{odd, "A", 4, true},
		{odd, "B", 0, false},
		{odd, "c", 0, false},
		{api.Table{}, "", 0, false},
		{api.Table{}, "a", 0, false},
		{tab("t", three), "a", 0, true},
		{tab("t", three), "b", 1, true},
		{tab("t", three), "c", 2, true},
		{tab("t", three), "d", 0, false},
		{tab("t", three), "t", 0, false},
		{tab("t", three), "", 0, false},
		{tab("t", many(6)), "c6", 5, true},
		{tab("t", many(300)), "c300", 299, true},
	} {
		if at, ok := table.Column(x.t, x.name); at != x.at || ok != x.ok {
			t.Errorf("%s, %s: %d %v", saidTable(x.t), x.name, at, ok)
		}
	}
	for columns, want := range map[string]string{
		three:                         "1 true",
		"a INT KEY":                   "0 true",
		"a INT, b INT, c INT":         "0 false",
		"a INT MUST":                  "0 false",
		"a INT, b INT, c INT KEY":     "2 true",
		"a INT, b INT KEY, c INT KEY": "1 true",
		"1 WHAT KEY, 1 WHAT KEY":      "0 true",
		many(300) + ", a INT KEY":     "0 true",
		"select BOOL, a\x00 BOOL KEY": "1 true",
	} {
		if at, ok := table.Key(tab("t", columns)); fmt.Sprint(at, ok) != want {
			t.Errorf("%s: %d %v", columns, at, ok)
		}
	}
	if at, ok := table.Key(odd); at != 2 || !ok {
		t.Errorf("%d %v", at, ok)
	}
	if at, ok := table.Key(api.Table{}); at != 0 || ok {
		t.Errorf("%d %v", at, ok)
	}
}

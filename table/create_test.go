package table_test

import (
	"testing"

	"tallyhouse/api"
	"tallyhouse/table"
)

// P12.2: Create puts a table where its Name stands, with its rows.
func TestCreate(t *testing.T) {
	b, d := plain("b", 2), plain("d", 0)
	for name, want := range map[string]api.Store{
		"a":  of(plain("a", 1), b, d),
		"bb": of(b, plain("bb", 1), d),
		"c":  of(b, plain("c", 1), d),
		"e":  of(b, d, plain("e", 1)),
		"B":  of(plain("B", 1), b, d),
		"D":  of(plain("D", 1), b, d),
	} {
		got, err := table.Create(of(b, d), plain(name, 1))
		tells(t, "Create "+name, got, err, want, api.OK)
	}
	for why, x := range goodTables() {
		got, err := table.Create(api.Store{}, x)
		tells(t, why, got, err, of(x), api.OK)
	}
	got, err := table.Create(of(plain("a", 1), b, plain("c", 1)), d)
	tells(t, "the last one that there is room for", got, err, of(plain("a", 1), b, plain("c", 1), d), api.OK)
}

// P12.2: Create of what is there already, or of one more than MaxTables.
func TestCreateRefused(t *testing.T) {
	s := of(plain("b", 2), plain("d", 0))
	full := of(plain("a", 1), plain("b", 1), plain("c", 1), plain("d", 1))
	for _, x := range []struct {
		call string
		in   api.Store
		t    api.Table
		want api.Errno
	}{
		{"the same", s, plain("b", 2), api.ErrThere},
		{"another one of that Name", s, tab("d", two), api.ErrThere},
		{"one more", full, plain("e", 0), api.ErrFull},
		{"one more ahead", full, plain("B", 0), api.ErrFull},
		{"there, and full", full, plain("c", 0), api.ErrThere},
		{"no table, there, and full", full, plain("c", 41), api.ErrTable},
		{"no table, and there", s, tab("b", "a INT"), api.ErrTable},
		{"no table, and full", full, tab("e", "a INT"), api.ErrTable},
		{"no tables, no table", of(plain("b", 1), plain("a", 1)), tab("c", "a INT"), api.ErrStore},
		{"no tables, and there", of(plain("b", 1), plain("a", 1)), plain("a", 1), api.ErrStore},
	} {
		got, err := table.Create(x.in, x.t)
		tells(t, x.call, got, err, api.Store{}, x.want)
	}
	for why, x := range badTables() {
		got, err := table.Create(s, x)
		tells(t, why, got, err, api.Store{}, api.ErrTable)
	}
	for why, bad := range badStores() {
		got, err := table.Create(bad, plain("b", 1))
		tells(t, why, got, err, api.Store{}, api.ErrStore)
		got, err = table.Create(bad, api.Table{})
		tells(t, why+", no table", got, err, api.Store{}, api.ErrStore)
	}
}

// P12.2: Drop takes a table away, whatever rows it has, and no other one.
func TestDrop(t *testing.T) {
	a, aa, b, c := plain("a", 2), plain("aa", 40), tab("b", two), plain("c", 1)
	full := of(a, aa, b, c)
	for name, want := range map[string]api.Store{
		"a":  of(aa, b, c),
		"aa": of(a, b, c),
		"b":  of(a, aa, c),
		"c":  of(a, aa, b),
	} {
		got, err := table.Drop(full, name)
		tells(t, "Drop "+name, got, err, want, api.OK)
	}
	got, err := table.Drop(of(b), "b")
	tells(t, "Drop of the only one", got, err, api.Store{}, api.OK)
}

// P12.2: Drop of a table that is not there.
func TestDropRefused(t *testing.T) {
	s := of(plain("a", 2), plain("c", 1))
	for _, name := range []string{"", "b", "A", "C", "aa", "d", "B", "select", "1", "a ", "a\x00", longest("") + "nnn"} {
		got, err := table.Drop(s, name)
		tells(t, "Drop "+name, got, err, api.Store{}, api.ErrNone)
	}
	got, err := table.Drop(api.Store{}, "a")
	tells(t, "Drop of none", got, err, api.Store{}, api.ErrNone)
	for why, bad := range badStores() {
		for _, name := range []string{"a", "zzz", ""} {
			got, err := table.Drop(bad, name)
			tells(t, why, got, err, api.Store{}, api.ErrStore)
		}
	}
}

package table

import (
	"slices"
	"strings"

	"tallyhouse/api"
	"tallyhouse/value"
)

// Find: P12.4.
func Find(s api.Store, name string) (api.Table, bool) {
	at, err := place(s, name)
	if err != api.OK {
		return api.Table{}, false
	}
	return copyTable(s.Tables[at]), true
}

// Get: P12.4.
func Get(s api.Store, name string, key api.Value) ([]api.Value, bool) {
	at, err := place(s, name)
	if err != api.OK {
		return nil, false
	}
	rows := s.Tables[at].Rows
	column, _ := Key(s.Tables[at])
	row, there := slices.BinarySearchFunc(rows, key, func(row []api.Value, key api.Value) int {
		return value.Compare(row[column], key)
	})
	if !there {
		return nil, false
	}
	return copyRow(rows[row]), true
}

// Column: P12.4.
func Column(t api.Table, name string) (int, bool) {
	return first(t, func(c api.Defined) bool {
		return c.Name == name
	})
}

// Key: P12.4.
func Key(t api.Table) (int, bool) {
	return first(t, func(c api.Defined) bool {
		return c.Key
	})
}

func first(t api.Table, is func(api.Defined) bool) (int, bool) {
	at := slices.IndexFunc(t.Columns, is)
	return max(at, 0), at >= 0
}

// place is where a table of tables that may be stands.
func place(s api.Store, name string) (int, api.Errno) {
	if err := Check(s); err != api.OK {
		return 0, err
	}
	at, there := search(s, name)
	if !there {
		return 0, api.ErrNone
	}
	return at, api.OK
}

// search tells where the table of that name stands, or would stand, among tables whose names rise.
func search(s api.Store, name string) (int, bool) {
	return slices.BinarySearchFunc(s.Tables, name, func(t api.Table, name string) int {
		return strings.Compare(t.Name, name)
	})
}

package table

import (
	"slices"

	"tallyhouse/api"
)

// Create: P12.2.
func Create(s api.Store, t api.Table) (api.Store, api.Errno) {
	if err := Check(s); err != api.OK {
		return api.Store{}, err
	}
	if err := CheckTable(t); err != api.OK {
		return api.Store{}, err
	}
	at, there := search(s, t.Name)
	switch {
	case there:
		return api.Store{}, api.ErrThere
	case len(s.Tables) == api.MaxTables:
		return api.Store{}, api.ErrFull
	}
	return api.Store{Tables: slices.Insert(copied(s.Tables, copyTable), at, copyTable(t))}, api.OK
}

// Drop: P12.2.
func Drop(s api.Store, name string) (api.Store, api.Errno) {
	at, err := place(s, name)
	if err != api.OK {
		return api.Store{}, err
	}
	return api.Store{Tables: slices.Delete(copied(s.Tables, copyTable), at, at+1)}, api.OK
}

// Insert: P12.3.
func Insert(s api.Store, name string, rows [][]api.Value) (api.Store, api.Errno) {
	return refill(s, name, func(t api.Table) ([][]api.Value, api.Errno) {
		return besides(t, t.Rows, rows)
	})
}

// Delete: P12.3.
func Delete(s api.Store, name string, keys []api.Value) (api.Store, int, api.Errno) {
	gone := 0
	out, err := refill(s, name, func(t api.Table) ([][]api.Value, api.Errno) {
		rows := without(t, keys)
		gone = len(t.Rows) - len(rows)
		return rows, api.OK
	})
	return out, gone, err
}

// Replace: P12.3.
func Replace(s api.Store, name string, rows [][]api.Value) (api.Store, api.Errno) {
	return refill(s, name, func(t api.Table) ([][]api.Value, api.Errno) {
		return besides(t, nil, rows)
	})
}

// refill answers tables of their own, one of which has the rows that turn makes of it; turn may hand on rows, but no list of them, that are not its own.
func refill(s api.Store, name string, turn func(api.Table) ([][]api.Value, api.Errno)) (api.Store, api.Errno) {
	at, err := place(s, name)
	if err != api.OK {
		return api.Store{}, err
	}
	rows, err := turn(s.Tables[at])
	if err != api.OK {
		return api.Store{}, err
	}
	out := copied(s.Tables, copyTable)
	out[at].Rows = copied(rows, copyRow)
	return api.Store{Tables: out}, api.OK
}

// besides is the rows that are there with others besides, in order: two of one key stand side by side then.
func besides(t api.Table, there, rows [][]api.Value) ([][]api.Value, api.Errno) {
	for _, row := range rows {
		if !isRow(t.Columns, row) {
			return nil, api.ErrRow
		}
	}
	all := slices.Concat(there, rows)
	order := byKey(t)
	slices.SortFunc(all, order)
	for i := 1; i < len(all); i++ {
		if order(all[i-1], all[i]) == 0 {
			return nil, api.ErrThere
		}
	}
	if len(all) > api.MaxRows {
		return nil, api.ErrFull
	}
	return all, api.OK
}

// without is the rows whose keys are not among these.
func without(t api.Table, keys []api.Value) [][]api.Value {
	key, _ := Key(t)
	var kept [][]api.Value
	for _, row := range t.Rows {
		if !slices.Contains(keys, row[key]) {
			kept = append(kept, row)
		}
	}
	return kept
}

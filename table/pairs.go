package table

import (
	"tallyhouse/api"
	"tallyhouse/value"
)

// What a pair's key begins with.
const (
	ofTable = 1 + iota
	ofRow
)

// What a column's bytes end with, if it is no key and may be null, if it may not be null, and if it is the key.
const (
	markNone = iota
	markNotNull
	markKey
)

// Pairs: P12.5.
func Pairs(s api.Store) []api.Cell {
	if Check(s) != api.OK {
		return nil
	}
	var tables, rows []api.Cell
	for _, t := range s.Tables {
		tables = append(tables, api.Cell{Key: string(opening(ofTable, t.Name)), Value: string(putColumns(nil, t.Columns))})
		key, _ := Key(t)
		for _, row := range t.Rows {
			rows = append(rows, api.Cell{Key: RowKey(t.Name, row[key]), Value: RowBytes(row)})
		}
	}
	return append(tables, rows...)
}

// RowKey: P12.5.
func RowKey(name string, key api.Value) string {
	b, err := value.Encode(key)
	if err != api.OK {
		return ""
	}
	return string(append(opening(ofRow, name), b...))
}

// RowBytes: P12.5.
func RowBytes(row []api.Value) string {
	var all []byte
	for _, v := range row {
		b, err := value.Encode(v)
		if err != api.OK {
			return ""
		}
		all = append(all, b...)
	}
	return string(all)
}

// opening ends the name with a nought, so that the keys of tables stand in the order of their names: no name has one.
func opening(kind byte, name string) []byte {
	return append(append([]byte{kind}, name...), 0)
}

// putColumns adds to b, which is to be the package's own, as do putName and all that add to bytes.
func putColumns(b []byte, l []api.Defined) []byte {
	b = append(b, byte(len(l)))
	for _, c := range l {
		b = append(putName(b, c.Name), byte(c.Type), mark(c))
	}
	return b
}

func putName(b []byte, name string) []byte {
	return append(append(b, byte(len(name))), name...)
}

func mark(c api.Defined) byte {
	switch {
	case c.Key:
		return markKey
	case c.NotNull:
		return markNotNull
	}
	return markNone
}

package table_test

import (
	"regexp"
	"slices"
	"strings"

	"tallyhouse/api"
)

// keptWords are those of chapter 10.
const keptWords = " CREATE TABLE DROP INSERT INTO VALUES UPDATE SET DELETE FROM SELECT WHERE INNER JOIN ON ORDER BY ASC DESC LIMIT GROUP COUNT SUM AND OR NOT NULL TRUE FALSE IS INT BOOL TEXT PRIMARY KEY "

var nameForm = regexp.MustCompile(`^[A-Za-z_][A-Za-z0-9_]{0,23}$`)

func modelName(s string) bool {
	return nameForm.MatchString(s) && !strings.Contains(keptWords, " "+strings.ToUpper(s)+" ")
}

// modelValue tells whether a value may be, as chapter 5 says.
func modelValue(v api.Value) bool {
	switch v.Kind {
	case 1:
		return v.Num == 0 && v.Text == ""
	case 2:
		return (v.Num == 0 || v.Num == 1) && v.Text == ""
	case 3:
		return v.Text == ""
	case 4:
		return v.Num == 0 && len(v.Text) <= 64
	}
	return false
}

// modelBelow is chapter 5's order.
func modelBelow(a, b api.Value) bool {
	if a.Kind != b.Kind {
		return a.Kind < b.Kind
	}
	return a.Num < b.Num || a.Num == b.Num && a.Text < b.Text
}

// modelRow tells whether values are a row of these columns.
func modelRow(columns []api.Defined, row []api.Value) bool {
	fitting := 0
	for i, v := range row {
		if i >= len(columns) || !modelValue(v) {
			return false
		}
		c := columns[i]
		if v.Kind == c.Type || v.Kind == 1 && !c.Key && !c.NotNull {
			fitting++
		}
	}
	return fitting == len(columns)
}

// modelKey is the place of the key, if there is just one.
func modelKey(columns []api.Defined) int {
	at := -1
	for i, c := range columns {
		if c.Key && at >= 0 {
			return -1
		}
		if c.Key {
			at = i
		}
	}
	return at
}

// modelTable tells whether a table may be: each pair of columns, and of rows, is looked at.
func modelTable(t api.Table) bool {
	key := modelKey(t.Columns)
	if !modelName(t.Name) || len(t.Columns) > 6 || len(t.Rows) > 40 || key < 0 {
		return false
	}
	for i, c := range t.Columns {
		if !modelName(c.Name) || c.Type < 2 || c.Type > 4 || c.Key && c.NotNull {
			return false
		}
		for _, other := range t.Columns[:i] {
			if other.Name == c.Name {
				return false
			}
		}
	}
	for i, row := range t.Rows {
		if !modelRow(t.Columns, row) {
			return false
		}
		for _, ahead := range t.Rows[:i] {
			if !modelBelow(ahead[key], row[key]) {
				return false
			}
		}
	}
	return true
}

func modelStore(s api.Store) bool {
	for i, t := range s.Tables {
		if i == 4 || !modelTable(t) {
			return false
		}
		for _, ahead := range s.Tables[:i] {
			if ahead.Name >= t.Name {
				return false
			}
		}
	}
	return true
}

func modelFind(s api.Store, name string) int {
	for i, t := range s.Tables {
		if t.Name == name {
			return i
		}
	}
	return -1
}

func modelCreate(s api.Store, t api.Table) (api.Store, api.Errno) {
	switch {
	case !modelStore(s):
		return api.Store{}, 220
	case !modelTable(t):
		return api.Store{}, 221
	case modelFind(s, t.Name) >= 0:
		return api.Store{}, 5
	case len(s.Tables) >= 4:
		return api.Store{}, 6
	}
	var out api.Store
	for _, other := range s.Tables {
		if other.Name < t.Name {
			out.Tables = append(out.Tables, other)
		}
	}
	out.Tables = append(out.Tables, t)
	for _, other := range s.Tables {
		if other.Name > t.Name {
			out.Tables = append(out.Tables, other)
		}
	}
	return out, 0
}

func modelDrop(s api.Store, name string) (api.Store, api.Errno) {
	if !modelStore(s) {
		return api.Store{}, 220
	}
	var out api.Store
	for _, t := range s.Tables {
		if t.Name != name {
			out.Tables = append(out.Tables, t)
		}
	}
	if len(out.Tables) == len(s.Tables) {
		return api.Store{}, 4
	}
	return out, 0
}

// modelFill is what Insert, and Replace of a table without rows, make.
func modelFill(s api.Store, name string, more [][]api.Value, alone bool) (api.Store, api.Errno) {
	at := modelFind(s, name)
	if !modelStore(s) {
		return api.Store{}, 220
	}
	if at < 0 {
		return api.Store{}, 4
	}
	t := s.Tables[at]
	key := modelKey(t.Columns)
	if alone {
		t.Rows = nil
	}
	for _, row := range more {
		if !modelRow(t.Columns, row) {
			return api.Store{}, 222
		}
	}
	var all [][]api.Value
	for _, row := range append(slices.Clone(t.Rows), more...) {
		place := 0
		for _, other := range all {
			if other[key] == row[key] {
				return api.Store{}, 5
			}
			if modelBelow(other[key], row[key]) {
				place++
			}
		}
		all = slices.Insert(all, place, row)
	}
	if len(all) > 40 {
		return api.Store{}, 6
	}
	t.Rows = all
	out := api.Store{Tables: slices.Clone(s.Tables)}
	out.Tables[at] = t
	return out, 0
}

func modelDelete(s api.Store, name string, keys []api.Value) (api.Store, int, api.Errno) {
	at := modelFind(s, name)
	if !modelStore(s) {
		return api.Store{}, 0, 220
	}
	if at < 0 {
		return api.Store{}, 0, 4
	}
	out := api.Store{Tables: slices.Clone(s.Tables)}
	t := &out.Tables[at]
	gone := 0
	t.Rows = nil
	for _, row := range s.Tables[at].Rows {
		kept := true
		for _, key := range keys {
			kept = kept && row[modelKey(t.Columns)] != key
		}
		if kept {
			t.Rows = append(t.Rows, row)
		} else {
			gone++
		}
	}
	return out, gone, 0
}

// modelSaid is a value's bytes, as chapter 5 says them.
func modelSaid(v api.Value) string {
	switch v.Kind {
	case 1:
		return "\x01"
	case 2:
		return "\x02" + string([]byte{byte(v.Num)})
	case 3:
		n := uint64(v.Num) + 1<<63
		s := "\x03"
		for shift := 56; shift >= 0; shift -= 8 {
			s += string([]byte{byte(n >> shift)})
		}
		return s
	}
	return "\x04" + strings.ReplaceAll(v.Text, "\x00", "\x00\xff") + "\x00\x00"
}

func modelRowBytes(row []api.Value) string {
	s := ""
	for _, v := range row {
		s += modelSaid(v)
	}
	return s
}

// counted is a count in a byte, and what there are so many of.
func counted(n int, s string) string {
	return string([]byte{byte(n)}) + s
}

func modelColumns(columns []api.Defined) string {
	s := ""
	for _, c := range columns {
		end := "\x00"
		if c.Key {
			end = "\x02"
		} else if c.NotNull {
			end = "\x01"
		}
		s += counted(len(c.Name), c.Name) + string([]byte{byte(c.Type)}) + end
	}
	return counted(len(columns), s)
}

// modelPairs are the pairs, first the tables' own.
func modelPairs(s api.Store) []api.Cell {
	var out []api.Cell
	for _, t := range s.Tables {
		out = append(out, api.Cell{Key: "\x01" + t.Name + "\x00", Value: modelColumns(t.Columns)})
	}
	for _, t := range s.Tables {
		for _, row := range t.Rows {
			out = append(out, api.Cell{Key: "\x02" + t.Name + "\x00" + modelSaid(row[modelKey(t.Columns)]), Value: modelRowBytes(row)})
		}
	}
	return out
}

// modelBytes are tables' bytes, of whatever tables whose counts and Types are below 256, and whose values may be.
func modelBytes(s api.Store) string {
	out := ""
	for _, t := range s.Tables {
		list := ""
		for _, row := range t.Rows {
			list += modelRowBytes(row)
		}
		out += counted(len(t.Name), t.Name) + modelColumns(t.Columns) + counted(len(t.Rows), list)
	}
	return counted(len(s.Tables), out)
}

// cursor takes bytes off, and leaves by a panic of the error that is met.
type cursor struct {
	rest string
}

func (c *cursor) take(n int) string {
	if n > len(c.rest) {
		panic(api.ErrShort)
	}
	s := c.rest[:n]
	c.rest = c.rest[n:]
	return s
}

func (c *cursor) count() int {
	return int(c.take(1)[0])
}

func (c *cursor) value() api.Value {
	switch kind := c.count(); kind {
	case 1:
		return null
	case 2:
		if b := c.count(); b < 2 {
			return api.Value{Kind: 2, Num: int64(b)}
		}
	case 3:
		n := uint64(0)
		for _, b := range []byte(c.take(8)) {
			n = n*256 + uint64(b)
		}
		return num(int64(n - 1<<63))
	case 4:
		s := ""
		for {
			next := c.take(1)
			if next == "\x00" {
				behind := c.count()
				if behind == 0 {
					return text(s)
				}
				if behind != 0xff {
					break
				}
			}
			if s += next; len(s) > 64 {
				break
			}
		}
	}
	panic(api.ErrStore)
}

// modelDecode reads as many of all as the counts say; then it asks whether what was read may be, and is just that.
func modelDecode(b string) (s api.Store, err api.Errno) {
	defer func() {
		if e := recover(); e != nil {
			s, err = api.Store{}, e.(api.Errno)
		}
	}()
	c := &cursor{b}
	wrong := false
	for range c.count() {
		t := api.Table{Name: c.take(c.count())}
		for range c.count() {
			column := api.Defined{Name: c.take(c.count()), Type: c.count()}
			end := c.count()
			column.Key, column.NotNull = end == 2, end == 1
			wrong = wrong || end > 2
			t.Columns = append(t.Columns, column)
		}
		for range c.count() {
			var row []api.Value
			for range t.Columns {
				row = append(row, c.value())
			}
			t.Rows = append(t.Rows, row)
		}
		s.Tables = append(s.Tables, t)
	}
	if wrong || c.rest != "" || !modelStore(s) {
		return api.Store{}, api.ErrStore
	}
	return s, api.OK
}

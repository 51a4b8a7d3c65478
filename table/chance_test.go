package table_test

import (
	"fmt"
	"slices"
	"strings"
	"testing"

	"tallyhouse/api"
	"tallyhouse/table"
)

// chance picks by a row that is always the same.
type chance uint64

// pick is a number below n.
func (c *chance) pick(n int) int {
	*c = *c*6364136223846793005 + 1442695040888963407
	return int(uint64(*c) >> 33 % uint64(n))
}

// oneIn is true one time in n.
func (c *chance) oneIn(n int) bool {
	return c.pick(n) == 0
}

// among is one of these.
func (c *chance) among(all ...string) string {
	return all[c.pick(len(all))]
}

// name is one of few, so that some are met twice.
func (c *chance) name() string {
	return c.among("a", "b", "ab", "B", "_", "t1", "t10", "longer", longest(""), longest("x"))
}

// value is one of a Kind, near to others.
func (c *chance) value(kind int) api.Value {
	switch kind {
	case 1:
		return null
	case 2:
		return api.Value{Kind: 2, Num: int64(c.pick(2))}
	case 3:
		return num(int64(c.pick(60)-30) << (c.pick(50)))
	}
	return text(c.among("", "a", "ab", "\x00", "a\x00", "\xff", "b", "z") + c.among("", "x", "y", "\x00", "\x00\xff", strings.Repeat("q", 60)))
}

// row is one of these columns.
func (c *chance) row(columns []api.Defined) []api.Value {
	var out []api.Value
	for _, column := range columns {
		kind := column.Type
		if !column.Key && !column.NotNull && c.oneIn(4) {
			kind = 1
		}
		out = append(out, c.value(kind))
	}
	return out
}

// rows are up to most rows of these columns; some of them may have one key.
func (c *chance) rows(columns []api.Defined, most int) [][]api.Value {
	var out [][]api.Value
	for range c.pick(most + 1) {
		out = append(out, c.row(columns))
	}
	return out
}

// table is one that may be.
func (c *chance) table(name string) api.Table {
	t := api.Table{Name: name}
	for range 1 + c.pick(6) {
		column := api.Defined{Name: c.name(), Type: 2 + c.pick(3), NotNull: c.oneIn(3)}
		if !slices.ContainsFunc(t.Columns, func(other api.Defined) bool { return other.Name == column.Name }) {
			t.Columns = append(t.Columns, column)
		}
	}
	key := c.pick(len(t.Columns))
	t.Columns[key].Key, t.Columns[key].NotNull = true, false
	for _, r := range c.rows(t.Columns, []int{0, 3, 10, 60}[c.pick(4)]) {
		place := 0
		for place < len(t.Rows) && modelBelow(t.Rows[place][key], r[key]) {
			place++
		}
		if len(t.Rows) < 40 && (place == len(t.Rows) || t.Rows[place][key] != r[key]) {
			t.Rows = slices.Insert(t.Rows, place, r)
		}
	}
	return t
}

// store is tables that may be.
func (c *chance) store() api.Store {
	var s api.Store
	for range c.pick(6) {
		if more, err := modelCreate(s, c.table(c.name())); err == api.OK {
			s = more
		}
	}
	return s
}

// spoilt is tables of which something is another one; most of them may not be.
func (c *chance) spoilt(s api.Store) api.Store {
	s = deep(s)
	if len(s.Tables) == 0 || c.oneIn(10) {
		for range 1 + c.pick(5) {
			s.Tables = append(s.Tables, c.table(c.name()))
		}
		return s
	}
	t := &s.Tables[c.pick(len(s.Tables))]
	column := &t.Columns[c.pick(len(t.Columns))]
	switch c.pick(8) {
	case 0:
		t.Name = c.among("", "1", "in to", "into", "c", t.Name+"0", "N"+longest(""))
	case 1:
		column.Name = c.among("", "1", "Key", "c", column.Name+"0", t.Columns[0].Name)
	case 2:
		column.Type = c.pick(7) - 1
	case 3:
		column.Key = !column.Key
	case 4:
		column.NotNull = !column.NotNull
	case 5:
		t.Columns = slices.Delete(t.Columns, 0, c.pick(len(t.Columns)+1))
	case 6:
		t.Columns = append(t.Columns, *column)
	default:
		t.Rows = c.spoiltRows(t.Rows, t.Columns)
	}
	return s
}

// spoiltRows are rows of which one is another one, is there twice, or has gone elsewhere.
func (c *chance) spoiltRows(l [][]api.Value, columns []api.Defined) [][]api.Value {
	if len(l) == 0 {
		return rows(c.spoiltRow(c.row(columns)))
	}
	i, j := c.pick(len(l)), c.pick(len(l))
	switch c.pick(4) {
	case 0:
		l[i], l[j] = l[j], l[i]
	case 1:
		l = slices.Insert(l, i, l[j])
	case 2:
		l = slices.Insert(l, i, c.row(columns))
	default:
		l[i] = c.spoiltRow(l[i])
	}
	return l
}

// spoiltRow is a row with another value, with one more or one less.
func (c *chance) spoiltRow(r []api.Value) []api.Value {
	r = slices.Clone(r)
	i := c.pick(len(r))
	switch c.pick(6) {
	case 0:
		return append(r, null)
	case 1:
		return r[:i]
	case 2:
		r[i] = api.Value{Kind: c.pick(7) - 1}
	case 3:
		r[i].Num = int64(c.pick(4))
	case 4:
		r[i].Text += c.among("x", strings.Repeat("x", 64))
	default:
		r[i] = c.value(1 + c.pick(4))
	}
	return r
}

// pool is tables that may be, and some that may not.
func (c *chance) pool() api.Store {
	s := c.store()
	if c.oneIn(4) {
		s = c.spoilt(s)
	}
	return s
}

// P12.1: Check, CheckTable and CheckRow are what the words say.
func TestCheckByChance(t *testing.T) {
	c := chance(1)
	met := map[string]int{}
	for range 6000 {
		s := c.store()
		if !c.oneIn(3) {
			s = c.spoilt(s)
		}
		err := table.Check(s)
		if (err == api.OK) != modelStore(s) || err != api.OK && err != api.ErrStore {
			t.Fatalf("%s: %d", said(s), err)
		}
		met[fmt.Sprint("Check ", err)]++
		for _, x := range s.Tables {
			err := table.CheckTable(x)
			if (err == api.OK) != modelTable(x) || err != api.OK && err != api.ErrTable {
				t.Fatalf("%s: %d", saidTable(x), err)
			}
			r := c.row(x.Columns)
			if c.oneIn(2) && len(r) > 0 {
				r = c.spoiltRow(r)
			}
			want := api.OK
			if !modelTable(x) {
				want = 221
			} else if !modelRow(x.Columns, r) {
				want = 222
			}
			if err := table.CheckRow(x, r); err != want {
				t.Fatalf("%s %s: %d", saidTable(x), saidRow(r), err)
			}
			met[fmt.Sprint("CheckRow ", want)]++
		}
	}
	for _, what := range []string{"Check 0", "Check 220", "CheckRow 0", "CheckRow 221", "CheckRow 222"} {
		if met[what] < 500 {
			t.Error(met)
		}
	}
}

// P12.2: Create and Drop are what the words say.
func TestCreateAndDropByChance(t *testing.T) {
	c := chance(2)
	met := map[string]int{}
	for range 8000 {
		s, x := c.pool(), c.table(c.name())
		if c.oneIn(4) {
			x = c.spoilt(of(x)).Tables[0]
		}
		want, wrong := modelCreate(s, x)
		got, err := table.Create(s, x)
		tells(t, "Create", got, err, want, wrong)
		met[fmt.Sprint("Create ", err)]++
		name := c.name()
		want, wrong = modelDrop(s, name)
		got, err = table.Drop(s, name)
		tells(t, "Drop", got, err, want, wrong)
		met[fmt.Sprint("Drop ", err)]++
	}
	for _, what := range []string{"Create 0", "Create 220", "Create 221", "Create 5", "Create 6", "Drop 0", "Drop 220", "Drop 4"} {
		if met[what] < 100 {
			t.Error(met)
		}
	}
}

// fill is rows and keys for a table of these tables, and its name, that is another one at times.
func (c *chance) fill(s api.Store) (string, [][]api.Value, []api.Value) {
	if len(s.Tables) == 0 || c.oneIn(8) {
		return c.name(), nil, row(1)
	}
	x := s.Tables[c.pick(len(s.Tables))]
	l := c.rows(x.Columns, []int{0, 1, 4, 45}[c.pick(4)])
	if key := modelKey(x.Columns); key >= 0 && x.Columns[key].Type == 3 && c.oneIn(4) {
		for i := range 5 + c.pick(60) {
			l = append(l, c.row(x.Columns))
			l[len(l)-1][key] = num(int64(i) + 1<<60)
		}
	}
	if c.oneIn(8) {
		l = append(l, x.Rows...)
	}
	if c.oneIn(6) && len(x.Columns) > 0 {
		l = c.spoiltRows(l, x.Columns)
	}
	keys := row(nil, api.Value{Kind: 3, Text: "x"})
	for _, r := range append(slices.Clone(l), x.Rows...) {
		if at := modelKey(x.Columns); c.oneIn(2) && at >= 0 && at < len(r) {
			keys = append(keys, r[at])
		}
	}
	return x.Name, l, keys
}

// P12.3: Insert, Delete and Replace are what the words say.
func TestFillByChance(t *testing.T) {
	c := chance(3)
	met := map[string]int{}
	for range 8000 {
		s := c.pool()
		name, l, keys := c.fill(s)
		want, wrong := modelFill(s, name, l, false)
		got, err := table.Insert(s, name, l)
		tells(t, "Insert", got, err, want, wrong)
		met[fmt.Sprint("Insert ", err)]++
		want, wrong = modelFill(s, name, l, true)
		got, err = table.Replace(s, name, l)
		tells(t, "Replace", got, err, want, wrong)
		met[fmt.Sprint("Replace ", err)]++
		want, many, wrong := modelDelete(s, name, keys)
		got, gone, err := table.Delete(s, name, keys)
		tells(t, "Delete", got, err, want, wrong)
		if gone != many {
			t.Errorf("Delete of %s from %s: %d", saidRow(keys), said(s), gone)
		}
		met[fmt.Sprint("Delete ", err)]++
	}
	for _, what := range []string{"Insert 0", "Insert 220", "Insert 222", "Insert 4", "Insert 5", "Insert 6", "Replace 0", "Replace 220", "Replace 222", "Replace 4", "Replace 5", "Replace 6", "Delete 0", "Delete 220", "Delete 4"} {
		if met[what] < 30 {
			t.Error(met)
		}
	}
}

// P12.4: Find, Get, Column and Key are what the words say.
func TestFindByChance(t *testing.T) {
	c := chance(4)
	for range 4000 {
		s := c.pool()
		may := modelStore(s)
		name := c.name()
		at := modelFind(s, name)
		got, ok := table.Find(s, name)
		if ok != (may && at >= 0) || ok && saidTable(got) != saidTable(s.Tables[at]) || !ok && saidTable(got) != saidTable(api.Table{}) {
			t.Fatalf("Find %s of %s: %v %s", name, said(s), ok, saidTable(got))
		}
		for _, x := range s.Tables {
			key := c.value(1 + c.pick(4))
			var want []api.Value
			for _, r := range x.Rows {
				if may && r[modelKey(x.Columns)] == key {
					want = r
				}
			}
			if got, ok := table.Get(s, x.Name, key); ok != (want != nil) || saidRow(got) != saidRow(want) {
				t.Fatalf("Get %s of %s: %v %s", saidRow(row(key)), said(s), ok, saidRow(got))
			}
			first, keys := "0 false", "0 false"
			for i, column := range slices.Backward(x.Columns) {
				if column.Name == name {
					first = fmt.Sprint(i, " true")
				}
				if column.Key {
					keys = fmt.Sprint(i, " true")
				}
			}
			if at, ok := table.Column(x, name); fmt.Sprint(at, ok) != first {
				t.Fatalf("Column %s of %s: %d %v", name, saidTable(x), at, ok)
			}
			if at, ok := table.Key(x); fmt.Sprint(at, ok) != keys {
				t.Fatalf("Key of %s: %d %v", saidTable(x), at, ok)
			}
		}
	}
}

// P12.5, P12.6: Pairs, Encode and Decode are what the words say, of bytes that are spoilt, too.
func TestBytesByChance(t *testing.T) {
	c := chance(5)
	met := map[api.Errno]int{}
	for range 3000 {
		s := c.pool()
		b, err := table.Encode(s)
		if !modelStore(s) {
			alike(t, "Pairs", table.Pairs(s), nil)
			if err != api.ErrStore || len(b) > 0 {
				t.Fatalf("%s: %d %q", said(s), err, b)
			}
			continue
		}
		alike(t, "Pairs", table.Pairs(s), modelPairs(s))
		if err != api.OK || string(b) != modelBytes(s) {
			t.Fatalf("%s: %d %q", said(s), err, b)
		}
		for range 5 {
			other := string(b)
			for range 1 + c.pick(3) {
				at := c.pick(len(other))
				other = other[:at] + c.among("", "\x00", "\x01", "\x02", "\x03", "a", "\xff", "\x04\x00\x00") + other[min(len(other), at+c.pick(3)):] + c.among("", "", "", "\x00")
				if other == "" {
					break
				}
			}
			met[decodes(t, "spoilt", other)]++
		}
	}
	if met[api.OK] < 100 || met[api.ErrShort] < 100 || met[api.ErrStore] < 100 {
		t.Error(met)
	}
}

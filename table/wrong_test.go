package table_test

import (
	"math"
	"slices"
	"strconv"
	"strings"

	"tallyhouse/api"
)

// longest is a name of as many bytes as one may have, ended by what is said.
func longest(end string) string {
	return strings.Repeat("n", 24-len(end)) + end
}

// goodTables may be, at the edges that the chapter names.
func goodTables() map[string]api.Table {
	full := tab("full", many(6))
	for i := range 40 {
		full.Rows = append(full.Rows, row(i-20, "x", nil, "", strings.Repeat("y", 64), nil))
	}
	return map[string]api.Table{
		"without rows":        tab("t", two),
		"empty lists":         {Name: "t", Columns: cols(two), Rows: [][]api.Value{}},
		"a longest name":      tab(longest(""), longest("")+" INT KEY, "+longest("2")+" BOOL"),
		"a name of one byte":  tab("_", "_ BOOL KEY"),
		"a name like a word":  tab("selects", "tables TEXT KEY, Keys INT"),
		"unlike in case":      tab("t", "a INT KEY, A INT", row(1, nil)),
		"the table's name":    tab("t", "t INT KEY"),
		"all columns, rows":   full,
		"one column":          plain("t", 40),
		"the key is last":     tab("t", "a TEXT, b BOOL, c INT KEY", row("z", true, 1), row("a", false, 2)),
		"a key of bools":      tab("t", "a BOOL KEY, b INT MUST", row(false, 7), row(true, 7)),
		"a key of texts":      tab("t", "a TEXT KEY, b INT MUST", row("", 1), row("\x00", 1), row("B", 1), row("a", 1), row("aa", 1), row("b", 1), row("\xff", 1)),
		"a key of numbers":    tab("t", "a INT KEY", row(num(math.MinInt64)), row(-1), row(0), row(1), row(num(math.MaxInt64))),
		"nulls":               tab("t", "a INT KEY, b INT, c TEXT, d BOOL", row(1, nil, nil, nil), row(2, 0, "", false)),
		"a longest text":      tab("t", two, row(1, strings.Repeat("\x00", 64))),
		"a longest key":       tab("t", "a TEXT KEY", row(strings.Repeat("a", 64))),
		"all but must":        tab("t", "a INT KEY, b TEXT MUST, c BOOL MUST, d INT MUST", row(1, "", false, 0)),
		"whatever text bytes": tab("t", two, row(1, "\n\x80'")),
	}
}

// badRows are no rows of a table with the columns a BOOL MUST, b INT KEY, c TEXT.
func badRows() map[string][]api.Value {
	return map[string][]api.Value{
		"none":                    nil,
		"empty":                   {},
		"too few":                 row(true, 1),
		"too many":                row(true, 1, "x", nil),
		"another order":           row(1, true, "x"),
		"bool of another Kind":    row("x", 1, "x"),
		"a number as a bool":      row(1, 1, "x"),
		"key of another Kind":     row(true, "1", "x"),
		"bool as a key":           row(true, true, "x"),
		"a text of another Kind":  row(true, 1, 2),
		"a bool as a text":        row(true, 1, false),
		"null in the key":         row(true, nil, "x"),
		"null where it may not":   row(nil, 1, "x"),
		"Kind 0":                  row(true, 1, api.Value{}),
		"Kind 5":                  row(true, 1, api.Value{Kind: 5}),
		"Kind -1":                 row(true, 1, api.Value{Kind: -1}),
		"Kind 0 as a key":         row(true, api.Value{Num: 1}, "x"),
		"null with Num":           row(true, 1, api.Value{Kind: 1, Num: 1}),
		"null with Text":          row(true, 1, api.Value{Kind: 1, Text: "x"}),
		"a bool of 2":             row(api.Value{Kind: 2, Num: 2}, 1, "x"),
		"a bool of -1":            row(api.Value{Kind: 2, Num: -1}, 1, "x"),
		"a bool with Text":        row(api.Value{Kind: 2, Text: "x"}, 1, "x"),
		"a number with Text":      row(true, api.Value{Kind: 3, Num: 1, Text: "x"}, "x"),
		"a text with Num":         row(true, 1, api.Value{Kind: 4, Num: 1, Text: "x"}),
		"a text that is too long": row(true, 1, strings.Repeat("x", 65)),
		"the last one alone":      row(true, 1, "x", "x"),
	}
}

const three = "a BOOL MUST, b INT KEY, c TEXT"

// badTables may not be: most of them for one reason alone.
func badTables() map[string]api.Table {
	out := map[string]api.Table{
		"nothing":                {},
		"no name":                tab("", two),
		"no columns":             {Name: "t"},
		"no columns, rows":       {Name: "t", Rows: rows(row())},
		"one column more":        tab("t", many(7)),
		"far more columns":       tab("t", many(300)),
		"a column without name":  tab("t", "a INT KEY,  TEXT"),
		"two of one Name":        tab("t", "a INT KEY, b TEXT, b TEXT"),
		"the key twice":          tab("t", "a INT KEY, a TEXT"),
		"first and last alike":   tab("t", "a TEXT, b INT KEY, c TEXT, d TEXT, e TEXT, a BOOL"),
		"no key":                 tab("t", "a INT, b TEXT"),
		"no key but NotNull":     tab("t", "a INT MUST"),
		"two keys":               tab("t", "a INT KEY, b TEXT KEY"),
		"three keys":             tab("t", "a INT KEY, b TEXT KEY, c BOOL KEY"),
		"one row more":           plain("t", 41),
		"far more rows":          plain("t", 500),
		"out of order":           tab("t", two, row(2, "x"), row(1, "y")),
		"out of order at last":   tab("t", two, row(1, "x"), row(3, "y"), row(2, "z")),
		"falling below nought":   tab("t", two, row(0, "x"), row(-1, "y")),
		"one key twice":          tab("t", two, row(1, "x"), row(1, "y")),
		"one row twice":          tab("t", two, row(1, "x"), row(1, "x")),
		"texts out of order":     tab("t", "a TEXT KEY", row("b"), row("B")),
		"texts, the short last":  tab("t", "a TEXT KEY", row("aa"), row("a")),
		"bools out of order":     tab("t", "a BOOL KEY", row(true), row(false)),
		"by another column":      tab("t", "a INT, b INT KEY", row(1, 2), row(2, 1)),
		"rows without a key":     tab("t", "a INT, b TEXT", row(1, "x"), row(2, "x")),
		"a row of another table": tab("t", two, row(1, "x"), row("y", 2)),
	}
	for _, name := range []string{"1a", "a b", "a-", "é", "a\n", " a", "a\x00", "select", "TABLE", "tEXT", "Key", longest("") + "n", "sum", "int", "'a'", "a.b"} {
		out["the name "+name] = tab(name, two)
		out["the column "+name] = api.Table{Name: "t", Columns: []api.Defined{{Name: "a", Type: 3, Key: true}, {Name: name, Type: 4}}}
		out["the key "+name] = api.Table{Name: "t", Columns: []api.Defined{{Name: name, Type: 3, Key: true}}}
	}
	for _, kind := range []int{-1, 0, 1, 5, 6, 258, math.MaxInt, math.MinInt} {
		out["the Type "+strconv.Itoa(kind)] = api.Table{Name: "t", Columns: []api.Defined{{Name: "a", Type: 3, Key: true}, {Name: "b", Type: kind}}}
		out["the key's Type "+strconv.Itoa(kind)] = api.Table{Name: "t", Columns: []api.Defined{{Name: "a", Type: kind, Key: true}}}
	}
	out["Key and NotNull"] = api.Table{Name: "t", Columns: []api.Defined{{Name: "a", Type: 3, Key: true, NotNull: true}}}
	out["Type of null, a null"] = api.Table{Name: "t", Columns: []api.Defined{{Name: "a", Type: 3, Key: true}, {Name: "b", Type: 1}}, Rows: rows(row(1, nil))}
	for why, bad := range badRows() {
		out["a row: "+why] = tab("t", three, row(true, 0, "x"), bad, row(true, 2, "x"))
		out["the only row: "+why] = tab("t", three, bad)
		out["the last row: "+why] = tab("t", three, row(true, 0, "x"), bad)
	}
	return out
}

// named is a table of another name.
func named(name string, t api.Table) api.Table {
	t.Name = name
	return t
}

// goodStores may be.
func goodStores() map[string]api.Store {
	out := map[string]api.Store{
		"none":               {},
		"an empty list":      {Tables: []api.Table{}},
		"two":                of(tab("t", two), tab("u", two, row(1, "x"))),
		"all tables":         of(plain("a", 40), plain("aa", 0), plain("ab", 1), plain("b", 40)),
		"capitals first":     of(plain("B", 1), plain("_", 1), plain("a", 1), plain("b", 1)),
		"unlike in case":     of(plain("T", 1), plain("t", 1)),
		"one begins another": of(plain("t", 3), plain("t0", 3), plain("t00", 3), plain("ta", 3)),
	}
	for why, t := range goodTables() {
		out["a table: "+why] = of(t)
	}
	return out
}

// badStores may not be: most of them for one reason alone.
func badStores() map[string]api.Store {
	out := map[string]api.Store{
		"one more":            of(plain("a", 1), plain("b", 1), plain("c", 1), plain("d", 1), plain("e", 1)),
		"far more":            {Tables: slices.Repeat([]api.Table{plain("a", 1)}, 1000)},
		"out of order":        of(plain("b", 1), plain("a", 1)),
		"out of order, last":  of(plain("a", 1), plain("c", 1), plain("b", 1)),
		"capitals last":       of(plain("a", 1), plain("B", 1)),
		"the longer first":    of(plain("aa", 1), plain("a", 1)),
		"two of one Name":     of(plain("a", 1), plain("a", 1)),
		"unlike, of one Name": of(plain("a", 1), tab("a", two)),
		"the last two alike":  of(plain("a", 1), plain("b", 1), plain("c", 1), plain("c", 2)),
	}
	for why, t := range badTables() {
		out["a table: "+why] = of(t)
		if modelName(t.Name) {
			out["the last table: "+why] = of(plain("a", 1), plain("b", 1), named("zz", t))
			out["the first table: "+why] = of(named("A", t), plain("b", 1))
		}
	}
	return out
}

package table_test

import (
	"fmt"
	"strconv"
	"strings"
	"testing"

	"tallyhouse/api"
)

var (
	null = api.Value{Kind: 1}
	no   = api.Value{Kind: 2}
	yes  = api.Value{Kind: 2, Num: 1}
)

func num(n int64) api.Value {
	return api.Value{Kind: 3, Num: n}
}

func text(s string) api.Value {
	return api.Value{Kind: 4, Text: s}
}

// row is values: numbers, texts, bools, null as nil, and values as they are.
func row(all ...any) []api.Value {
	var out []api.Value
	for _, x := range all {
		switch x := x.(type) {
		case nil:
			out = append(out, null)
		case bool:
			out = append(out, map[bool]api.Value{false: no, true: yes}[x])
		case int:
			out = append(out, num(int64(x)))
		case string:
			out = append(out, text(x))
		case api.Value:
			out = append(out, x)
		}
	}
	return out
}

func rows(all ...[]api.Value) [][]api.Value {
	return all
}

// cols reads columns from a text, as "a INT KEY, b TEXT, c BOOL MUST".
func cols(s string) []api.Defined {
	var out []api.Defined
	for _, part := range strings.Split(s, ", ") {
		words := append(strings.Split(part, " "), "")
		out = append(out, api.Defined{
			Name: words[0], Type: map[string]int{"BOOL": 2, "INT": 3, "TEXT": 4}[words[1]],
			Key: words[2] == "KEY", NotNull: words[2] == "MUST",
		})
	}
	return out
}

func tab(name, columns string, rows ...[]api.Value) api.Table {
	return api.Table{Name: name, Columns: cols(columns), Rows: rows}
}

func of(tables ...api.Table) api.Store {
	return api.Store{Tables: tables}
}

// two are the columns of the chapter's table.
const two = "a INT KEY, b TEXT"

// plain is a table whose only column is a number, the key, with the rows 1 to n.
func plain(name string, n int) api.Table {
	t := tab(name, "k INT KEY")
	for i := range n {
		t.Rows = append(t.Rows, row(i+1))
	}
	return t
}

// many is as many columns, the first one of which is the key.
func many(n int) string {
	s := "c1 INT KEY"
	for i := 2; i <= n; i++ {
		s += fmt.Sprintf(", c%d TEXT", i)
	}
	return s
}

// addRow adds a row as a text; by hand, as tests by chance ask for very many.
func addRow(b []byte, row []api.Value) []byte {
	b = append(b, '(')
	for _, v := range row {
		b = strconv.AppendInt(append(b, '<'), int64(v.Kind), 10)
		b = strconv.AppendInt(append(b, ' '), v.Num, 10)
		b = append(strconv.AppendQuote(append(b, ' '), v.Text), '>')
	}
	return append(b, ')')
}

func addTable(b []byte, t api.Table) []byte {
	b = append(strconv.AppendQuote(b, t.Name), ':')
	for _, c := range t.Columns {
		b = strconv.AppendQuote(append(b, " {"...), c.Name)
		b = strconv.AppendInt(append(b, ' '), int64(c.Type), 10)
		b = strconv.AppendBool(append(b, ' '), c.Key)
		b = append(strconv.AppendBool(append(b, ' '), c.NotNull), '}')
	}
	for _, row := range t.Rows {
		b = addRow(append(b, ' '), row)
	}
	return b
}

func saidRow(row []api.Value) string {
	return string(addRow(nil, row))
}

func saidTable(t api.Table) string {
	return string(addTable(nil, t))
}

// said is all that tables have; nil and empty lists are one.
func said(s api.Store) string {
	var b []byte
	for _, t := range s.Tables {
		b = append(addTable(append(b, '['), t), ']')
	}
	return string(b)
}

// tells fails the test, unless the answer is this one; beside an error there are to be no tables.
func tells(t *testing.T, call string, got api.Store, err api.Errno, want api.Store, wrong api.Errno) {
	t.Helper()
	if wrong != api.OK {
		want = api.Store{}
	}
	if err != wrong || said(got) != said(want) {
		t.Errorf("%s: %d %s; not %d %s", call, err, said(got), wrong, said(want))
	}
}

// deep is the same tables in memory of their own.
func deep(s api.Store) api.Store {
	var out api.Store
	for _, t := range s.Tables {
		own := api.Table{Name: t.Name, Columns: append([]api.Defined{}, t.Columns...)}
		for _, row := range t.Rows {
			own.Rows = append(own.Rows, append([]api.Value{}, row...))
		}
		out.Tables = append(out.Tables, own)
	}
	return out
}

package check_test

import (
	"fmt"
	"slices"
	"strings"
	"testing"

	"tallyhouse/api"
	"tallyhouse/check"
	"tallyhouse/parse"
)

// setup are the tables that most tests check against: t and u have columns of one Name, of one Type and of unlike ones.
const setup = "CREATE TABLE t (a INT PRIMARY KEY, b TEXT, c BOOL NOT NULL, d INT); CREATE TABLE u (a TEXT PRIMARY KEY, n INT, c BOOL, e TEXT); CREATE TABLE v (k BOOL PRIMARY KEY)"

// made are the tables that statements make, which are to be told in the order of the names.
func made(t *testing.T, sql string) api.Store {
	t.Helper()
	all, spot := parse.Parse(sql)
	if spot.Err != api.OK {
		t.Fatalf("%q: %d at %d", sql, spot.Err, spot.At)
	}
	var s api.Store
	for _, one := range all {
		s.Tables = append(s.Tables, api.Table{Name: one.Table, Columns: one.Columns})
	}
	return s
}

// parsed is the statement of a text.
func parsed(t *testing.T, sql string) api.Stmt {
	t.Helper()
	all, spot := parse.Parse(sql)
	if spot.Err != api.OK || len(all) != 1 {
		t.Fatalf("%q: %d statements, %d at %d", sql, len(all), spot.Err, spot.At)
	}
	return all[0]
}

// expr is the expression of a text.
func expr(t *testing.T, text string) api.Expr {
	t.Helper()
	return parsed(t, "DELETE FROM t WHERE "+text).Where
}

// node is an expression of one node.
func node(n api.Node) api.Expr {
	return api.Expr{Nodes: []api.Node{n}}
}

// single is an expression of a number.
func single() api.Expr {
	return node(api.Node{Kind: 1, Value: api.Value{Kind: 3, Num: 1}})
}

// same tells whether two plans are the same, field by field; nil and empty lists are one.
func same(a, b api.Plan) bool {
	return parse.Same(a.Stmt, b.Stmt) && a.Group == b.Group && a.Order == b.Order && slices.Equal(a.Types, b.Types) && a.Many == b.Many
}

func said(p api.Plan) string {
	return fmt.Sprintf("%+v", p)
}

// answers fails the test, unless Check answers what the model does; it tells the error.
func answers(t *testing.T, call string, s api.Store, x api.Stmt) api.Errno {
	t.Helper()
	got, err := check.Check(s, x)
	want, wrong := modelCheck(s, x)
	if err != wrong || !same(got, want) {
		t.Errorf("%s: %d %s; the model says %d %s", call, err, said(got), wrong, said(want))
	}
	return err
}

// refuses fails the test, unless that error is answered, with no plan beside it.
func refuses(t *testing.T, call string, s api.Store, x api.Stmt, want api.Errno) {
	t.Helper()
	got, err := check.Check(s, x)
	if err != want || want != api.OK && !same(got, api.Plan{}) {
		t.Errorf("%s: %d %s; not %d", call, err, said(got), want)
	}
	if _, wrong := modelCheck(s, x); wrong != want {
		t.Errorf("%s: the model says %d, not %d", call, wrong, want)
	}
}

// tells fails the test, unless the statement of a text, checked against the tables of setup, has that error.
func tells(t *testing.T, want api.Errno, sql string) {
	t.Helper()
	refuses(t, sql, made(t, setup), parsed(t, sql), want)
}

// plans fails the test, unless the statement of a text has a plan, with these Types, and Many or not.
func plans(t *testing.T, sql string, many bool, types ...int) api.Plan {
	t.Helper()
	tells(t, api.OK, sql)
	p, _ := check.Check(made(t, setup), parsed(t, sql))
	if p.Many != many || !slices.Equal(p.Types, types) {
		t.Errorf("%s: Many %t, Types %v; not %t, %v", sql, p.Many, p.Types, many, types)
	}
	return p
}

// places are the places that an expression's columns have, as a text: table.column, one behind the other.
func places(e api.Expr) string {
	var out []string
	for _, n := range e.Nodes {
		if n.Kind == 2 {
			out = append(out, fmt.Sprintf("%d.%d", n.A, n.B))
		}
	}
	return strings.Join(out, " ")
}

package parse_test

import (
	"testing"

	"tallyhouse/api"
	"tallyhouse/parse"
)

// P11.1: the chapter's examples.
func TestExampleRows(t *testing.T) {
	parses(t, "SELECT a + 2 * b FROM t", api.Stmt{Kind: api.StSelect, Table: "t", Limit: -1, Items: []api.Item{{Kind: api.ItExpr, Expr: api.Expr{Nodes: []api.Node{
		{Kind: api.ExColumn, Name: "a"},
		{Kind: api.ExValue, Value: api.Value{Kind: api.ValInt, Num: 2}},
		{Kind: api.ExColumn, Name: "b"},
		{Kind: api.ExReckon, Op: api.OpMul, A: 1, B: 2},
		{Kind: api.ExReckon, Op: api.OpAdd, A: 0, B: 3},
	}}}}})
	plain, bracketed := "SELECT * FROM t WHERE NOT a = 1 AND b IS NULL", "SELECT * FROM t WHERE (NOT (a = 1)) AND (b IS NULL)"
	for _, text := range []string{plain, bracketed} {
		parses(t, text, api.Stmt{Kind: api.StSelect, Table: "t", Limit: -1, Star: true, Where: api.Expr{Nodes: []api.Node{
			{Kind: api.ExColumn, Name: "a"},
			{Kind: api.ExValue, Value: api.Value{Kind: api.ValInt, Num: 1}},
			{Kind: api.ExTest, Op: api.OpEq, A: 0, B: 1},
			{Kind: api.ExNot, A: 2},
			{Kind: api.ExColumn, Name: "b"},
			{Kind: api.ExNull, A: 4},
			{Kind: api.ExAnd, A: 3, B: 5},
		}}})
	}
	if !parse.Same(one(t, plain), one(t, bracketed)) {
		t.Error("brackets have a row")
	}
}

// P11.1: the chapter's examples of what is wrong.
func TestExampleFaults(t *testing.T) {
	fails(t, "SELECT a FROM", api.ErrParse, 13)
	fails(t, "SELECT FROM t", api.ErrParse, 7)
	fails(t, "CREATE TABLE t ()", api.ErrParse, 16)
	fails(t, "DROP TABLE t;;", api.ErrParse, 13)
}

// P11.2: the chapter's examples, printed.
func TestExamplePrints(t *testing.T) {
	for text, want := range map[string]string{
		"SELECT a + 2 * b FROM t":                       "SELECT ( a + ( 2 * b ) ) FROM t",
		"SELECT * FROM t WHERE NOT a = 1 AND b IS NULL": "SELECT * FROM t WHERE ( ( NOT ( a = 1 ) ) AND ( b IS NULL ) )",
	} {
		if got := parse.Print(one(t, text)); got != want {
			t.Errorf("%q: %q", text, got)
		}
	}
}

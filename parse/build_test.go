package parse_test

import (
	"fmt"
	"strings"
	"testing"

	"tallyhouse/api"
	"tallyhouse/parse"
)

// said says a statement, each of its fields; nil and empty lists are one.
func said(s api.Stmt) string {
	out := fmt.Sprintf("%d %q %q [", s.Kind, s.Table, s.Join)
	for _, c := range s.Columns {
		out += fmt.Sprintf(" %q:%d:%t:%t", c.Name, c.Type, c.Key, c.NotNull)
	}
	out += " ] ["
	for _, set := range s.Sets {
		out += fmt.Sprintf(" %q=%s", set.Name, saidExpr(set.Expr))
	}
	out += fmt.Sprintf(" ] %t [", s.Star)
	for _, i := range s.Items {
		out += fmt.Sprintf(" %d:%s", i.Kind, saidExpr(i.Expr))
	}
	return out + fmt.Sprintf(" ] on %s where %s group %q order %q %t limit %d", saidExpr(s.On), saidExpr(s.Where), s.Group, s.Order, s.Desc, s.Limit)
}

func saidExpr(e api.Expr) string {
	out := "<"
	for _, n := range e.Nodes {
		out += fmt.Sprintf(" %d:%d:%d:%d:%q:%q:%d:%d:%q", n.Kind, n.Op, n.A, n.B, n.Table, n.Name, n.Value.Kind, n.Value.Num, n.Value.Text)
	}
	return out + " >"
}

// saidAll says statements, and the spot beside them.
func saidAll(l []api.Stmt, spot api.Spot) string {
	out := fmt.Sprintf("%d at %d", spot.Err, spot.At)
	for _, s := range l {
		out += "; " + said(s)
	}
	return out
}

// parses fails the test where a text's statements are not these.
func parses(t *testing.T, text string, want ...api.Stmt) {
	t.Helper()
	got, spot := parse.Parse(text)
	if saidAll(got, spot) != saidAll(want, api.Spot{}) {
		t.Errorf("%q: %s; not %s", text, saidAll(got, spot), saidAll(want, api.Spot{}))
	}
	if model := modelSpot(text); model != (api.Spot{}) {
		t.Errorf("%q: the model says %d at %d", text, model.Err, model.At)
	}
}

// fails fails the test where a text has statements, or another fault, or one at another place.
func fails(t *testing.T, text string, err api.Errno, at int) {
	t.Helper()
	want := api.Spot{Err: err, At: at}
	if got, spot := parse.Parse(text); len(got) > 0 || spot != want {
		t.Errorf("%q: %s; not %d at %d", text, saidAll(got, spot), err, at)
	}
	if model := modelSpot(text); model != want {
		t.Errorf("%q: the model says %d at %d; not %d at %d", text, model.Err, model.At, err, at)
	}
}

// failsHere fails the test where a text is not wrong at the sign ^ in it, which is taken out; at its end, if there is none.
func failsHere(t *testing.T, err api.Errno, marked string) {
	t.Helper()
	ahead, behind, _ := strings.Cut(marked, "^")
	fails(t, ahead+behind, err, len(ahead))
}

// one is the statement of a text; it fails the test, if there is not just one.
func one(t *testing.T, text string) api.Stmt {
	t.Helper()
	got, spot := parse.Parse(text)
	if len(got) != 1 || spot != (api.Spot{}) {
		t.Fatalf("%q: %s", text, saidAll(got, spot))
	}
	return got[0]
}

// parted is an expression as a tree: what a row is of stands below it.
type parted struct {
	node api.Node
	of   []*parted
}

// expr is a tree as rows.
func (p *parted) expr() api.Expr {
	var e api.Expr
	p.put(&e)
	return e
}

func (p *parted) put(e *api.Expr) int {
	n := p.node
	for i, part := range p.of {
		at := part.put(e)
		if i == 0 {
			n.A = at
		} else {
			n.B = at
		}
	}
	e.Nodes = append(e.Nodes, n)
	return len(e.Nodes) - 1
}

func col(name string) *parted {
	table, column, both := strings.Cut(name, ".")
	if !both {
		table, column = "", name
	}
	return &parted{node: api.Node{Kind: 2, Table: table, Name: column}}
}

func num(n int64) *parted {
	return &parted{node: api.Node{Kind: 1, Value: api.Value{Kind: 3, Num: n}}}
}

func text(s string) *parted {
	return &parted{node: api.Node{Kind: 1, Value: api.Value{Kind: 4, Text: s}}}
}

func truth(n int64) *parted {
	return &parted{node: api.Node{Kind: 1, Value: api.Value{Kind: 2, Num: n}}}
}

func null() *parted {
	return &parted{node: api.Node{Kind: 1, Value: api.Value{Kind: 1}}}
}

// of is what a word says of one or two.
func of(word string, parts ...*parted) *parted {
	return &parted{node: wordNodes[word], of: parts}
}

// wordNodes are the kinds and ops of rows, by what is written there; the sign - of one is the word minus.
var wordNodes = map[string]api.Node{
	"NOT": {Kind: 3}, "minus": {Kind: 4}, "AND": {Kind: 5}, "OR": {Kind: 6}, "IS NULL": {Kind: 9}, "IS NOT NULL": {Kind: 10},
	"=": {Kind: 7, Op: 1}, "<>": {Kind: 7, Op: 2}, "<": {Kind: 7, Op: 3}, "<=": {Kind: 7, Op: 4}, ">": {Kind: 7, Op: 5}, ">=": {Kind: 7, Op: 6},
	"+": {Kind: 8, Op: 1}, "-": {Kind: 8, Op: 2}, "*": {Kind: 8, Op: 3}, "/": {Kind: 8, Op: 4}, "%": {Kind: 8, Op: 5},
}

// means fails the test where an expression, wherever it stands, is not that tree.
func means(t *testing.T, text string, tree *parted) {
	t.Helper()
	where(t, text, tree)
	e := tree.expr()
	parses(t, "INSERT INTO t VALUES ("+text+", 1)", api.Stmt{Kind: 3, Table: "t", Sets: []api.Set{{Expr: e}, {Expr: num(1).expr()}}, Limit: -1})
	parses(t, "UPDATE t SET a = "+text+";", api.Stmt{Kind: 4, Table: "t", Sets: []api.Set{{Name: "a", Expr: e}}, Limit: -1})
	parses(t, "SELECT "+text+", SUM("+text+") FROM t INNER JOIN u ON "+text+" WHERE "+text, api.Stmt{Kind: 6, Table: "t", Join: "u", Items: []api.Item{{Kind: 1, Expr: e}, {Kind: 3, Expr: e}}, On: e, Where: e, Limit: -1})
}

// where fails the test where an expression behind WHERE is not that tree.
func where(t *testing.T, text string, tree *parted) {
	t.Helper()
	parses(t, "DELETE FROM t WHERE "+text, api.Stmt{Kind: 5, Table: "t", Where: tree.expr(), Limit: -1})
}

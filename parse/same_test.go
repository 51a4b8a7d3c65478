package parse_test

import (
	"slices"
	"testing"

	"tallyhouse/api"
	"tallyhouse/parse"
)

// full is a statement of which no field is zero; its lists are its own.
func full() api.Stmt {
	e := func(name string) api.Expr {
		return api.Expr{Nodes: []api.Node{{Kind: 2, Table: "t", Name: name}, {Kind: 1, Op: 2, A: 3, B: 4, Table: "u", Name: "v", Value: api.Value{Kind: 4, Num: 5, Text: "w"}}}}
	}
	return api.Stmt{
		Kind: 6, Table: "t", Join: "u", Columns: []api.Defined{{Name: "a", Type: 3, Key: true, NotNull: true}, {Name: "b", Type: 4}},
		Sets: []api.Set{{Name: "a", Expr: e("s")}, {Name: "b", Expr: e("r")}}, Star: true, Items: []api.Item{{Kind: 1, Expr: e("i")}, {Kind: 2}}, On: e("o"), Where: e("w"),
		Group: api.Ref{Table: "t", Name: "g"}, Order: api.Ref{Table: "t", Name: "o"}, Desc: true, Limit: 5,
	}
}

// otherExprs are changes of an expression, each in one field.
func otherExprs(of func(s *api.Stmt) *api.Expr) []func(s *api.Stmt) {
	var out []func(s *api.Stmt)
	for _, change := range []func(n *api.Node){
		func(n *api.Node) { n.Kind++ }, func(n *api.Node) { n.Op++ }, func(n *api.Node) { n.A++ }, func(n *api.Node) { n.B-- }, func(n *api.Node) { n.Table += "x" }, func(n *api.Node) { n.Name = "" },
		func(n *api.Node) { n.Value.Kind++ }, func(n *api.Node) { n.Value.Num = -n.Value.Num + 1 }, func(n *api.Node) { n.Value.Text += "W" },
	} {
		out = append(out, func(s *api.Stmt) { change(&of(s).Nodes[0]) }, func(s *api.Stmt) { change(&of(s).Nodes[1]) })
	}
	return append(out,
		func(s *api.Stmt) { of(s).Nodes = nil },
		func(s *api.Stmt) { of(s).Nodes = of(s).Nodes[:1] },
		func(s *api.Stmt) { of(s).Nodes = append(slices.Clip(of(s).Nodes), api.Node{}) },
		func(s *api.Stmt) { slices.Reverse(of(s).Nodes) },
	)
}

// P11.2: Same tells each field, and no two statements that differ in one alone are the same.
func TestSameFields(t *testing.T) {
	changes := []func(s *api.Stmt){
		func(s *api.Stmt) {}, func(s *api.Stmt) { s.Kind = 5 }, func(s *api.Stmt) { s.Table = "T" }, func(s *api.Stmt) { s.Join = "" }, func(s *api.Stmt) { s.Star = false }, func(s *api.Stmt) { s.Desc = false }, func(s *api.Stmt) { s.Limit = -1 }, func(s *api.Stmt) { s.Limit = 0 },
		func(s *api.Stmt) { s.Group.Table = "" }, func(s *api.Stmt) { s.Group.Name = "x" }, func(s *api.Stmt) { s.Order.Table = "x" }, func(s *api.Stmt) { s.Order.Name = "" }, func(s *api.Stmt) { s.Group = api.Ref{} },
		func(s *api.Stmt) { s.Columns[0].Name = "A" }, func(s *api.Stmt) { s.Columns[0].Type = 2 }, func(s *api.Stmt) { s.Columns[0].Key = false }, func(s *api.Stmt) { s.Columns[0].NotNull = false }, func(s *api.Stmt) { s.Columns[1].Key = true }, func(s *api.Stmt) { s.Columns[1].NotNull = true },
		func(s *api.Stmt) { s.Columns = nil }, func(s *api.Stmt) { s.Columns = s.Columns[:1] }, func(s *api.Stmt) { slices.Reverse(s.Columns) }, func(s *api.Stmt) { s.Columns = append(s.Columns, api.Defined{}) },
		func(s *api.Stmt) { s.Sets = nil }, func(s *api.Stmt) { s.Sets = s.Sets[1:] }, func(s *api.Stmt) { s.Sets[0].Name = "" }, func(s *api.Stmt) { s.Sets[1].Name = "c" }, func(s *api.Stmt) { slices.Reverse(s.Sets) }, func(s *api.Stmt) { s.Sets = append(s.Sets, api.Set{}) },
		func(s *api.Stmt) { s.Items = nil }, func(s *api.Stmt) { s.Items = s.Items[:1] }, func(s *api.Stmt) { s.Items[0].Kind = 3 }, func(s *api.Stmt) { s.Items[1].Kind = 0 }, func(s *api.Stmt) { slices.Reverse(s.Items) }, func(s *api.Stmt) { s.Items = append(s.Items, api.Item{}) },
		func(s *api.Stmt) { s.On, s.Where = s.Where, s.On },
	}
	for _, of := range []func(s *api.Stmt) *api.Expr{
		func(s *api.Stmt) *api.Expr { return &s.On }, func(s *api.Stmt) *api.Expr { return &s.Where }, func(s *api.Stmt) *api.Expr { return &s.Sets[0].Expr }, func(s *api.Stmt) *api.Expr { return &s.Sets[1].Expr }, func(s *api.Stmt) *api.Expr { return &s.Items[0].Expr },
	} {
		changes = append(changes, otherExprs(of)...)
	}
	for i, one := range changes {
		for j, two := range changes {
			a, b := full(), full()
			one(&a)
			two(&b)
			if parse.Same(a, b) != (said(a) == said(b)) || said(a) == said(b) && i != j {
				t.Fatalf("%d, %d: Same(%s, %s): %t", i, j, said(a), said(b), parse.Same(a, b))
			}
		}
	}
}

// P11.2: nil and empty lists are one, and so is what stands behind a list's end.
func TestSameLists(t *testing.T) {
	empty := api.Stmt{Columns: []api.Defined{}, Sets: []api.Set{}, Items: []api.Item{}, On: api.Expr{Nodes: []api.Node{}}, Where: api.Expr{Nodes: make([]api.Node, 0, 5)}}
	if !parse.Same(empty, api.Stmt{}) || !parse.Same(api.Stmt{}, empty) {
		t.Error("nil and empty lists are not one")
	}
	a, b := full(), full()
	a.Columns = append(a.Columns, api.Defined{Name: "room"})[:2]
	a.Where.Nodes = append(a.Where.Nodes, api.Node{Kind: 9})[:2]
	a.Sets = append(a.Sets, api.Set{Name: "room"})[:2]
	a.Items = append(a.Items, api.Item{Kind: 3})[:2]
	if !parse.Same(a, b) || !parse.Same(b, a) {
		t.Error("what is behind a list's end counts")
	}
}

// P11.2: statements that texts have are the same just if their fields are.
func TestSameParsed(t *testing.T) {
	var all []api.Stmt
	for _, sql := range []string{
		"DROP TABLE t", "drop table t;", "DROP TABLE T", "DELETE FROM t", "DELETE FROM t WHERE a", "DELETE FROM t WHERE t.a", "DELETE FROM t WHERE (a)", "DELETE FROM t WHERE 'a'", "DELETE FROM t WHERE 1", "DELETE FROM t WHERE TRUE", "DELETE FROM t WHERE FALSE", "DELETE FROM t WHERE 0", "DELETE FROM t WHERE NULL",
		"SELECT * FROM t", "SELECT a FROM t", "SELECT a FROM t LIMIT 0", "SELECT a FROM t LIMIT 1", "SELECT a FROM t LIMIT 01", "SELECT a FROM t ORDER BY a", "SELECT a FROM t ORDER BY a ASC", "SELECT a FROM t ORDER BY a DESC", "SELECT a FROM t GROUP BY a", "SELECT SUM(a) FROM t", "SELECT COUNT(*) FROM t",
		"INSERT INTO t VALUES (1)", "INSERT INTO t VALUES (1, 1)", "UPDATE t SET a = 1", "UPDATE t SET b = 1", "CREATE TABLE t (a INT)", "CREATE TABLE t (a INT PRIMARY KEY)", "CREATE TABLE t (a INT NOT NULL)", "CREATE TABLE t (a TEXT)", "DELETE FROM t WHERE a + b - c", "DELETE FROM t WHERE a + (b - c)", "DELETE FROM t WHERE (a + b) - c",
	} {
		all = append(all, one(t, sql))
	}
	same := 0
	for _, a := range all {
		for _, b := range all {
			if parse.Same(a, b) != (said(a) == said(b)) {
				t.Errorf("Same(%s, %s): %t", said(a), said(b), parse.Same(a, b))
			}
			if parse.Same(a, b) {
				same++
			}
		}
	}
	if same != len(all)+10 {
		t.Errorf("%d pairs are the same", same)
	}
}

package check_test

import (
	"testing"

	"tallyhouse/api"
	"tallyhouse/check"
)

var nowhere = api.Place{Table: -1, Column: -1}

// P13.2: the plan of each Kind but SELECT: no Types, no places of Group and Order, not Many.
func TestPlansOfOtherKinds(t *testing.T) {
	for _, sql := range []string{
		"CREATE TABLE t (a INT PRIMARY KEY, b TEXT NOT NULL, c BOOL)", "DROP TABLE u", "INSERT INTO u VALUES ('x', 1 + 2, TRUE OR NULL, NULL)",
		"UPDATE t SET b = 'x', d = 1 WHERE TRUE", "DELETE FROM t", "DELETE FROM v WHERE 1 = 2",
	} {
		p := plans(t, sql, false)
		if want := (api.Plan{Stmt: parsed(t, sql), Group: nowhere, Order: nowhere}); !same(p, want) {
			t.Errorf("%s: %s; not %s", sql, said(p), said(want))
		}
	}
}

// P13.2: Types of items, one by one, and of Star.
func TestPlanTypes(t *testing.T) {
	plans(t, "SELECT a, b, c, d FROM t", false, 3, 4, 2, 3)
	plans(t, "SELECT d, d, a + d, a = d, NULL, 'x', - NULL, b IS NULL FROM t", false, 3, 3, 3, 2, 1, 4, 3, 2)
	plans(t, "SELECT * FROM t", false, 3, 4, 2, 3)
	plans(t, "SELECT * FROM u", false, 4, 3, 2, 4)
	plans(t, "SELECT * FROM v", false, 2)
	plans(t, "SELECT * FROM t INNER JOIN u ON TRUE", false, 3, 4, 2, 3, 4, 3, 2, 4)
	plans(t, "SELECT * FROM u INNER JOIN t ON TRUE", false, 4, 3, 2, 4, 3, 4, 2, 3)
	plans(t, "SELECT * FROM v INNER JOIN u ON k ORDER BY n LIMIT 0", false, 2, 4, 3, 2, 4)
	plans(t, "SELECT COUNT(*) FROM v", true, 3)
	plans(t, "SELECT SUM(1), COUNT(*), SUM(NULL), COUNT(*) FROM t", true, 3, 3, 3, 3)
	plans(t, "SELECT b, COUNT(*), b, SUM(a) FROM t GROUP BY b", false, 4, 3, 4, 3)
}

// P13.2: the plan's statement has the places of columns in each expression, and is the statement else.
func TestPlanOfSelect(t *testing.T) {
	sql := "SELECT n, t.a * n = d FROM t INNER JOIN u ON NOT u.c AND t.c WHERE b = e OR u.a IS NULL ORDER BY t.c DESC LIMIT 7"
	p := plans(t, sql, false, 3, 2)
	want := api.Plan{Stmt: parsed(t, sql), Group: nowhere, Order: api.Place{Table: 0, Column: 2}, Types: []int{3, 2}}
	put := func(e api.Expr, at, table, column int) {
		e.Nodes[at].A, e.Nodes[at].B = table, column
	}
	s := want.Stmt
	put(s.Items[0].Expr, 0, 1, 1)
	put(s.Items[1].Expr, 0, 0, 0)
	put(s.Items[1].Expr, 1, 1, 1)
	put(s.Items[1].Expr, 3, 0, 3)
	put(s.On, 0, 1, 2)
	put(s.On, 2, 0, 2)
	put(s.Where, 0, 0, 1)
	put(s.Where, 1, 1, 3)
	put(s.Where, 3, 1, 0)
	if !same(p, want) {
		t.Errorf("%s; not %s", said(p), said(want))
	}
	if !s.Desc || s.Limit != 7 || s.Order != (api.Ref{Table: "t", Name: "c"}) {
		t.Error(said(p))
	}
}

// P13.2: On without a Join, and an item's expression beside Star or of a COUNT, have no places.
func TestPlanLeavesOthersAlone(t *testing.T) {
	odd := func() api.Expr { return node(api.Node{Kind: 2, A: 7, B: 8, Name: "b"}) }
	s := parsed(t, "SELECT * FROM t WHERE c")
	s.On, s.Items = odd(), []api.Item{{Kind: 1, Expr: odd()}, {Kind: 2, Expr: odd()}, {Kind: 3, Expr: odd()}}
	s.Where = expr(t, "b = 'x'")
	p, err := check.Check(made(t, setup), s)
	if err != api.OK || places(p.Stmt.On) != "7.8" || places(p.Stmt.Where) != "0.1" || p.Many {
		t.Errorf("%d %s", err, said(p))
	}
	for i, item := range p.Stmt.Items {
		if places(item.Expr) != "7.8" || item.Kind != i+1 {
			t.Errorf("%d %v", i, item)
		}
	}
	s = parsed(t, "SELECT COUNT(*) FROM t")
	s.Items[0].Expr = odd()
	p, err = check.Check(made(t, setup), s)
	if err != api.OK || places(p.Stmt.Items[0].Expr) != "7.8" || !p.Many {
		t.Errorf("%d %s", err, said(p))
	}
	s.Items[0].Expr = api.Expr{Nodes: []api.Node{{Kind: 77, A: -1}, {Kind: 2, Name: "zz"}}}
	refuses(t, "COUNT of what may not be", made(t, setup), s, api.OK)
	answers(t, "COUNT of what may not be", made(t, setup), s)
}

// P13.2: Many of a SELECT with COUNT or SUM among its Items, without Group.
func TestMany(t *testing.T) {
	plans(t, "SELECT a FROM t", false, 3)
	plans(t, "SELECT COUNT(*) FROM t", true, 3)
	plans(t, "SELECT SUM(a) FROM t WHERE c LIMIT 1", true, 3)
	plans(t, "SELECT COUNT(*), SUM(n) FROM t INNER JOIN u ON TRUE", true, 3, 3)
	plans(t, "SELECT COUNT(*) FROM t GROUP BY a", false, 3)
	plans(t, "SELECT SUM(d), d FROM t GROUP BY d ORDER BY d", false, 3, 3)
	plans(t, "SELECT d FROM t GROUP BY d", false, 3)
	plans(t, "SELECT * FROM t", false, 3, 4, 2, 3)
}

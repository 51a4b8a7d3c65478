package check_test

import (
	"testing"

	"tallyhouse/api"
	"tallyhouse/check"
)

// meantAs are columns by how they are named, with their places, or the error.
type meantAs struct {
	name  string
	place string
	err   api.Errno
}

// P13.2: which column is meant, of one table and of two, in each expression and each column of a SELECT.
func TestMeant(t *testing.T) {
	for from, list := range map[string][]meantAs{
		"t": {
			{"a", "0.0", 0}, {"b", "0.1", 0}, {"c", "0.2", 0}, {"d", "0.3", 0}, {"t.a", "0.0", 0}, {"t.d", "0.3", 0},
			{"n", "", 231}, {"A", "", 231}, {"u.a", "", 231}, {"u.n", "", 231}, {"t.n", "", 231}, {"T.a", "", 231}, {"none.a", "", 231}, {"t", "", 231}, {"a.t", "", 231},
		},
		"u": {{"a", "0.0", 0}, {"u.e", "0.3", 0}, {"t.a", "", 231}, {"d", "", 231}},
		"t INNER JOIN u ON TRUE": {
			{"a", "", 232}, {"c", "", 232}, {"t.a", "0.0", 0}, {"u.a", "1.0", 0}, {"u.c", "1.2", 0}, {"b", "0.1", 0}, {"n", "1.1", 0}, {"e", "1.3", 0},
			{"u.b", "", 231}, {"t.n", "", 231}, {"v.k", "", 231}, {"k", "", 231}, {"zz", "", 231},
		},
		"u INNER JOIN t ON TRUE": {{"a", "", 232}, {"t.a", "1.0", 0}, {"u.a", "0.0", 0}, {"b", "1.1", 0}, {"n", "0.1", 0}, {"t.c", "1.2", 0}},
		"v INNER JOIN t ON TRUE": {{"a", "1.0", 0}, {"k", "0.0", 0}, {"c", "1.2", 0}, {"v.k", "0.0", 0}, {"t.k", "", 231}, {"u.a", "", 231}, {"v.a", "", 231}},
	} {
		for _, x := range list {
			sql := "SELECT " + x.name + " FROM " + from
			tells(t, x.err, sql)
			tells(t, x.err, "SELECT * FROM "+from+" WHERE "+x.name+" IS NULL")
			tells(t, x.err, "SELECT * FROM "+from+" ORDER BY "+x.name)
			tells(t, x.err, "SELECT COUNT(*) FROM "+from+" GROUP BY "+x.name)
			if x.err != api.OK {
				continue
			}
			store := made(t, setup)
			p, _ := check.Check(store, parsed(t, sql))
			if got := places(p.Stmt.Items[0].Expr); got != x.place {
				t.Errorf("%s: %s; not %s", sql, got, x.place)
			}
			want := api.Place{Table: int(x.place[0] - '0'), Column: int(x.place[2] - '0')}
			p, _ = check.Check(store, parsed(t, "SELECT * FROM "+from+" ORDER BY "+x.name))
			if p.Order != want || p.Group != (api.Place{Table: -1, Column: -1}) {
				t.Errorf("ORDER BY %s of %s: %v, %v", x.name, from, p.Order, p.Group)
			}
			p, _ = check.Check(store, parsed(t, "SELECT COUNT(*) FROM "+from+" GROUP BY "+x.name))
			if p.Group != want || p.Order != (api.Place{Table: -1, Column: -1}) {
				t.Errorf("GROUP BY %s of %s: %v, %v", x.name, from, p.Group, p.Order)
			}
		}
	}
}

// P13.2: in On both tables' columns are meant.
func TestMeantInOn(t *testing.T) {
	p := plans(t, "SELECT t.b FROM v INNER JOIN t ON k = c AND t.c <> v.k", false, 4)
	if got := places(p.Stmt.On); got != "0.0 1.2 1.2 0.0" {
		t.Error(got)
	}
	p = plans(t, "SELECT e FROM t INNER JOIN u ON t.a = n AND b = u.a OR d < n", false, 4)
	if got := places(p.Stmt.On); got != "0.0 1.1 0.1 1.0 0.3 1.1" {
		t.Error(got)
	}
}

// P13.2: in an UPDATE and a DELETE the columns of the one table are meant.
func TestMeantOfOneTable(t *testing.T) {
	p := plans(t, "UPDATE t SET d = t.a + d, b = b, c = t.d = a WHERE c AND t.b = 'x'", false)
	for i, want := range []string{"0.0 0.3", "0.1", "0.3 0.0"} {
		if got := places(p.Stmt.Sets[i].Expr); got != want {
			t.Errorf("%d: %s; not %s", i, got, want)
		}
	}
	if got := places(p.Stmt.Where); got != "0.2 0.1" {
		t.Error(got)
	}
	p = plans(t, "DELETE FROM u WHERE u.n = 1 OR e = u.a", false)
	if got := places(p.Stmt.Where); got != "0.1 0.3 0.0" {
		t.Error(got)
	}
	for _, column := range []string{"zz", "u.a", "n", "v.k", "A"} {
		tells(t, api.ErrColumn, "UPDATE t SET b = 'x' WHERE "+column+" IS NULL")
		tells(t, api.ErrColumn, "UPDATE t SET c = "+column+" IS NULL")
		tells(t, api.ErrColumn, "DELETE FROM t WHERE "+column+" IS NULL")
	}
}

// P13.2: a Join is of a SELECT alone: beside another Kind it names no table whose columns are meant.
func TestJoinOfOtherKinds(t *testing.T) {
	store := made(t, setup)
	for _, join := range []string{"u", "t", "none"} {
		for _, sql := range []string{"UPDATE t SET d = a WHERE c", "DELETE FROM t WHERE a = 1", "DROP TABLE t", "INSERT INTO v VALUES (TRUE)", "CREATE TABLE t (a INT PRIMARY KEY)"} {
			s := parsed(t, sql)
			s.Join, s.On = join, expr(t, "zz = k")
			refuses(t, sql, store, s, api.OK)
			answers(t, sql, store, s)
		}
		s := parsed(t, "DELETE FROM t WHERE n = 1")
		s.Join, s.On = join, single()
		refuses(t, "a column of Join", store, s, api.ErrColumn)
	}
}

// P13.2: in an INSERT no column is meant, of whatever table.
func TestNoneIsMeant(t *testing.T) {
	for _, column := range []string{"a", "t.a", "c", "d", "u.n", "n", "v.k", "zz"} {
		tells(t, api.ErrColumn, "INSERT INTO t VALUES ("+column+" + 1, 'x', TRUE, 1)")
		tells(t, api.ErrColumn, "INSERT INTO t VALUES (1, 'x', TRUE, "+column+")")
		tells(t, api.ErrColumn, "INSERT INTO t VALUES (1, 'x', "+column+" IS NULL, 1)")
		tells(t, api.ErrColumn, "INSERT INTO v VALUES ("+column+" = 1)")
	}
	s := parsed(t, "INSERT INTO t VALUES (1, 'x', TRUE, 1)")
	s.Join, s.On = "u", single()
	s.Sets[3].Expr = expr(t, "n")
	refuses(t, "an INSERT with a Join", made(t, setup), s, api.ErrColumn)
	// What a set is named does not count.
	s = parsed(t, "INSERT INTO t VALUES (1, 'x', TRUE, 1)")
	for i, name := range []string{"zz", "a", "a", ""} {
		s.Sets[i].Name = name
	}
	refuses(t, "sets with names", made(t, setup), s, api.OK)
	answers(t, "sets with names", made(t, setup), s)
}

// P13.2: a Group and an Order with a Table alone are there: no column is meant by them.
func TestHalfARef(t *testing.T) {
	store := made(t, setup)
	for _, r := range []api.Ref{{Table: "t"}, {Table: "none"}, {Table: "t", Name: "zz"}, {Name: "zz"}, {Table: "u", Name: "b"}, {Name: "t.a"}, {Table: "t ", Name: "a"}} {
		s := parsed(t, "SELECT COUNT(*) FROM t INNER JOIN u ON TRUE")
		s.Group = r
		refuses(t, "Group", store, s, api.ErrColumn)
		s = parsed(t, "SELECT * FROM t INNER JOIN u ON TRUE")
		s.Order = r
		refuses(t, "Order", store, s, api.ErrColumn)
		s = parsed(t, "SELECT * FROM t INNER JOIN u ON TRUE")
		s.Where = node(api.Node{Kind: 2, Table: r.Table, Name: r.Name})
		refuses(t, "Where", store, s, api.ErrColumn)
	}
	s := parsed(t, "SELECT * FROM t INNER JOIN u ON TRUE")
	s.Where = node(api.Node{Kind: 2})
	refuses(t, "a column of no name", store, s, api.ErrColumn)
}

// P13.2: what stood in a column's A and B does not count, and the places take its place.
func TestPlacesOverOldOnes(t *testing.T) {
	store := made(t, setup)
	for _, old := range []int{0, 1, -1, 7, 1 << 40, -1 << 63} {
		s := parsed(t, "SELECT n + t.d FROM t INNER JOIN u ON u.c WHERE e = 'x'")
		for _, e := range []api.Expr{s.Items[0].Expr, s.On, s.Where} {
			for i := range e.Nodes {
				if e.Nodes[i].Kind == 2 {
					e.Nodes[i].A, e.Nodes[i].B = old, -old
				}
			}
		}
		p, err := check.Check(store, s)
		if got := places(p.Stmt.Items[0].Expr) + ", " + places(p.Stmt.On) + ", " + places(p.Stmt.Where); err != api.OK || got != "1.1 0.3, 1.2, 1.3" {
			t.Errorf("%d %s", err, got)
		}
		if n := p.Stmt.Items[0].Expr.Nodes[1]; n.Table != "t" || n.Name != "d" {
			t.Error(n)
		}
	}
}

package check_test

import (
	"testing"

	"tallyhouse/api"
	"tallyhouse/check"
)

// P13.2: the chapter's examples.
func TestExamples(t *testing.T) {
	s := made(t, "CREATE TABLE t (a INT PRIMARY KEY, b TEXT)")
	first := parsed(t, "SELECT a + 1, b FROM t ORDER BY b")
	got, err := check.Check(s, first)
	want := api.Plan{Stmt: parsed(t, "SELECT a + 1, b FROM t ORDER BY b"), Group: api.Place{Table: -1, Column: -1}, Order: api.Place{Column: 1}, Types: []int{3, 4}}
	want.Stmt.Items[1].Expr.Nodes[0].B = 1
	if err != api.OK || !same(got, want) {
		t.Errorf("%d %s; not %s", err, said(got), said(want))
	}
	got, err = check.Check(s, parsed(t, "SELECT COUNT(*), SUM(a) FROM t"))
	want = api.Plan{Stmt: parsed(t, "SELECT COUNT(*), SUM(a) FROM t"), Group: api.Place{Table: -1, Column: -1}, Order: api.Place{Table: -1, Column: -1}, Types: []int{3, 3}, Many: true}
	if err != api.OK || !same(got, want) {
		t.Errorf("%d %s; not %s", err, said(got), said(want))
	}
	for _, x := range []struct {
		sql  string
		want api.Errno
	}{
		{"SELECT c FROM t", api.ErrColumn},
		{"SELECT a + b FROM t", api.ErrTypes},
		{"SELECT a, COUNT(*) FROM t", api.ErrGroup},
		{"INSERT INTO t VALUES (1)", api.ErrCount},
		{"INSERT INTO t VALUES (a, 'x')", api.ErrColumn},
		{"UPDATE t SET a = 1", api.ErrKeys},
		{"SELECT * FROM t INNER JOIN t ON TRUE", api.ErrTwice},
	} {
		refuses(t, x.sql, s, parsed(t, x.sql), x.want)
	}
}

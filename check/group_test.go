package check_test

import (
	"testing"

	"tallyhouse/api"
	"tallyhouse/check"
)

// P13.2: ErrGroup, in each of its five ways, and beside none of them.
func TestGroup(t *testing.T) {
	for sql, want := range map[string]api.Errno{
		// Star beside a Group.
		"SELECT * FROM t GROUP BY a":                      api.ErrGroup,
		"SELECT * FROM t GROUP BY a ORDER BY a":           api.ErrGroup,
		"SELECT * FROM v GROUP BY k":                      api.ErrGroup,
		"SELECT * FROM t INNER JOIN u ON TRUE GROUP BY n": api.ErrGroup,
		"SELECT * FROM t":                                 api.OK,
		"SELECT * FROM t ORDER BY b":                      api.OK,
		// An item that is not just the column of Group.
		"SELECT b FROM t GROUP BY b":                                  api.OK,
		"SELECT t.b FROM t GROUP BY b":                                api.OK,
		"SELECT b FROM t GROUP BY t.b":                                api.OK,
		"SELECT t.b, b, COUNT(*), b FROM t GROUP BY t.b":              api.OK,
		"SELECT (b) FROM t GROUP BY b":                                api.OK,
		"SELECT a FROM t GROUP BY b":                                  api.ErrGroup,
		"SELECT d, a FROM t GROUP BY d":                               api.ErrGroup,
		"SELECT d, d, COUNT(*), a FROM t GROUP BY d":                  api.ErrGroup,
		"SELECT d + 0 FROM t GROUP BY d":                              api.ErrGroup,
		"SELECT - d FROM t GROUP BY d":                                api.ErrGroup,
		"SELECT c IS NULL FROM t GROUP BY c":                          api.ErrGroup,
		"SELECT NOT c FROM t GROUP BY c":                              api.ErrGroup,
		"SELECT 1 FROM t GROUP BY d":                                  api.ErrGroup,
		"SELECT NULL, COUNT(*) FROM t GROUP BY d":                     api.ErrGroup,
		"SELECT t.a FROM t INNER JOIN u ON TRUE GROUP BY t.a":         api.OK,
		"SELECT t.a FROM t INNER JOIN u ON TRUE GROUP BY u.a":         api.ErrGroup,
		"SELECT u.a FROM t INNER JOIN u ON TRUE GROUP BY t.a":         api.ErrGroup,
		"SELECT u.n FROM t INNER JOIN u ON TRUE GROUP BY n":           api.OK,
		"SELECT n, SUM(t.a) FROM t INNER JOIN u ON TRUE GROUP BY u.n": api.OK,
		// What sums are of does not matter.
		"SELECT COUNT(*) FROM t GROUP BY b":                   api.OK,
		"SELECT SUM(a), COUNT(*), SUM(d) FROM t GROUP BY b":   api.OK,
		"SELECT SUM(a + d), b FROM t GROUP BY b":              api.OK,
		"SELECT SUM(1) FROM t GROUP BY b":                     api.OK,
		"SELECT SUM(1) FROM t WHERE a = 1 GROUP BY b LIMIT 0": api.OK,
		// Both expressions and others, without a Group.
		"SELECT a, COUNT(*) FROM t":              api.ErrGroup,
		"SELECT COUNT(*), a FROM t":              api.ErrGroup,
		"SELECT SUM(a), a FROM t":                api.ErrGroup,
		"SELECT 1, SUM(a) FROM t":                api.ErrGroup,
		"SELECT COUNT(*), SUM(a), NULL FROM t":   api.ErrGroup,
		"SELECT a, b, d, COUNT(*) FROM t":        api.ErrGroup,
		"SELECT a, COUNT(*) FROM t ORDER BY a":   api.ErrGroup,
		"SELECT COUNT(*), SUM(a) FROM t LIMIT 1": api.OK,
		"SELECT a, b, NULL FROM t ORDER BY c":    api.OK,
		"SELECT a, COUNT(*) FROM t GROUP BY a":   api.OK,
		"SELECT a, COUNT(*) FROM t GROUP BY b":   api.ErrGroup,
		// Order is another column than Group.
		"SELECT b FROM t GROUP BY b ORDER BY b":                                 api.OK,
		"SELECT b FROM t GROUP BY b ORDER BY t.b DESC":                          api.OK,
		"SELECT b FROM t GROUP BY t.b ORDER BY b":                               api.OK,
		"SELECT b FROM t GROUP BY b ORDER BY a":                                 api.ErrGroup,
		"SELECT COUNT(*) FROM t GROUP BY b ORDER BY d":                          api.ErrGroup,
		"SELECT COUNT(*) FROM t GROUP BY b ORDER BY b":                          api.OK,
		"SELECT t.c FROM t INNER JOIN u ON TRUE GROUP BY t.c ORDER BY u.c":      api.ErrGroup,
		"SELECT t.c FROM t INNER JOIN u ON TRUE GROUP BY t.c ORDER BY t.c":      api.OK,
		"SELECT u.c FROM t INNER JOIN u ON TRUE GROUP BY u.c ORDER BY t.c":      api.ErrGroup,
		"SELECT COUNT(*) FROM u INNER JOIN t ON TRUE GROUP BY u.a ORDER BY t.a": api.ErrGroup,
		// An Order of one row of all.
		"SELECT COUNT(*) FROM t ORDER BY a":         api.ErrGroup,
		"SELECT SUM(a) FROM t ORDER BY a DESC":      api.ErrGroup,
		"SELECT SUM(a), COUNT(*) FROM t ORDER BY b": api.ErrGroup,
		"SELECT COUNT(*) FROM t WHERE c":            api.OK,
	} {
		tells(t, want, sql)
	}
}

// P13.2: ErrGroup comes behind all else.
func TestGroupComesLast(t *testing.T) {
	for sql, want := range map[string]api.Errno{
		"SELECT * FROM t GROUP BY zz":                          api.ErrColumn,
		"SELECT * FROM t GROUP BY a ORDER BY zz":               api.ErrColumn,
		"SELECT * FROM t WHERE a GROUP BY a":                   api.ErrTypes,
		"SELECT * FROM t INNER JOIN u ON TRUE GROUP BY a":      api.ErrTwice,
		"SELECT a, COUNT(*), b + 1 FROM t":                     api.ErrTypes,
		"SELECT a, COUNT(*), SUM(b) FROM t":                    api.ErrTypes,
		"SELECT COUNT(*) FROM t ORDER BY zz":                   api.ErrColumn,
		"SELECT a, zz FROM t GROUP BY b":                       api.ErrColumn,
		"SELECT a FROM t GROUP BY b ORDER BY zz":               api.ErrColumn,
		"SELECT t.a, n FROM t INNER JOIN u ON TRUE GROUP BY c": api.ErrTwice,
	} {
		tells(t, want, sql)
	}
}

// P13.2: an expression of more nodes than one is not just a column, though its last one is that.
func TestJustAColumn(t *testing.T) {
	store := made(t, setup)
	b := api.Node{Kind: 2, Name: "b"}
	for why, x := range map[string]struct {
		e    api.Expr
		want api.Errno
	}{
		"just it":                  {api.Expr{Nodes: []api.Node{b}}, api.OK},
		"a number ahead of it":     {api.Expr{Nodes: []api.Node{{Kind: 1, Value: api.Value{Kind: 1}}, b}}, api.ErrGroup},
		"it twice":                 {api.Expr{Nodes: []api.Node{b, b}}, api.ErrGroup},
		"a value":                  {api.Expr{Nodes: []api.Node{{Kind: 1, A: 0, B: 1, Name: "b", Value: api.Value{Kind: 1}}}}, api.ErrGroup},
		"the same places of a sum": {api.Expr{Nodes: []api.Node{{Kind: 2, Name: "d"}, {Kind: 2, Name: "d"}, {Kind: 8, Op: 1, A: 0, B: 1}}}, api.ErrGroup},
	} {
		s := parsed(t, "SELECT COUNT(*) FROM t GROUP BY b")
		s.Items = append(s.Items, api.Item{Kind: 1, Expr: x.e})
		refuses(t, why, store, s, x.want)
	}
}

// P13.2: beside Star the Items do not count: neither are they of a group, nor is one row told of all.
func TestItemsBesideStar(t *testing.T) {
	store := made(t, setup)
	for _, items := range [][]api.Item{{{Kind: 2}}, {{Kind: 1, Expr: single()}, {Kind: 3, Expr: single()}}, {{Kind: 77}}, {{Kind: 1, Expr: expr(t, "zz")}}} {
		s := parsed(t, "SELECT * FROM v ORDER BY k")
		s.Items = items
		p, err := check.Check(store, s)
		want := api.Plan{Stmt: s, Group: nowhere, Order: api.Place{}, Types: []int{2}}
		if err != api.OK || !same(p, want) {
			t.Errorf("%d %s; not %s", err, said(p), said(want))
		}
		answers(t, "beside Star", store, s)
		s.Group = api.Ref{Name: "k"}
		refuses(t, "beside Star and a Group", store, s, api.ErrGroup)
	}
}

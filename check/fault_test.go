package check_test

import (
	"fmt"
	"testing"

	"tallyhouse/api"
)

// fault spoils a statement at a place of its Kind's row of P13.2's table: of two faults at unlike places the one at the lesser place goes ahead.
type fault struct {
	place int
	err   api.Errno
	why   string
	spoil func(s *api.Stmt)
}

// exprFaults are faults of one expression, by what it is to be.
func exprFaults(t *testing.T, place int, wrong map[string]api.Errno, at func(s *api.Stmt) *api.Expr) []fault {
	var out []fault
	for text, err := range wrong {
		e := expr(t, text)
		out = append(out, fault{place, err, fmt.Sprintf("%s at %d", text, place), func(s *api.Stmt) { *at(s) = e }})
	}
	return out
}

// all fails the test where a fault alone, or the first of two, is not told.
func all(t *testing.T, sql string, faults []fault) {
	t.Helper()
	tells(t, api.OK, sql)
	store := made(t, setup)
	for _, f := range faults {
		s := parsed(t, sql)
		f.spoil(&s)
		refuses(t, sql+": "+f.why, store, s, f.err)
	}
	for _, ahead := range faults {
		for _, behind := range faults {
			if ahead.place >= behind.place {
				continue
			}
			why := sql + ": " + ahead.why + ", then " + behind.why
			s := parsed(t, sql)
			behind.spoil(&s)
			ahead.spoil(&s)
			refuses(t, why, store, s, ahead.err)
		}
	}
}

// worsened are statements that may not be any more, by why: each is wrong at one place.
func worsened(s api.Stmt) map[string]api.Stmt {
	kind, limit, on := s, s, s
	kind.Kind = 7
	limit.Limit = -2
	on.Join = "none"
	out := map[string]api.Stmt{"no Kind": kind, "a Limit that is too low": limit, "a Join without On": on}
	switch s.Kind {
	case 1:
		s.Columns = nil
	case 2:
		return out
	case 3, 4:
		s.Sets = append(s.Sets[:len(s.Sets):len(s.Sets)], api.Set{})
	case 5:
		s.Where = node(api.Node{})
	case 6:
		s.Items = nil
	}
	out["a part that may not be"] = s
	return out
}

// P13.2: ErrStore goes ahead of all else, ErrStmt of all but that.
func TestStoreAndStmtGoAhead(t *testing.T) {
	good := made(t, setup)
	stores := map[string]api.Store{
		"out of order": {Tables: []api.Table{good.Tables[1], good.Tables[0]}},
		"twice":        {Tables: []api.Table{good.Tables[0], good.Tables[0]}},
		"no columns":   {Tables: []api.Table{{Name: "t"}}},
		"no name":      {Tables: []api.Table{{Columns: good.Tables[2].Columns}, good.Tables[0]}},
		"two keys":     made(t, "CREATE TABLE t (a INT PRIMARY KEY, b TEXT PRIMARY KEY)"),
		"five tables":  made(t, "CREATE TABLE o (a INT PRIMARY KEY); CREATE TABLE p (a INT PRIMARY KEY); CREATE TABLE q (a INT PRIMARY KEY); CREATE TABLE r (a INT PRIMARY KEY); CREATE TABLE t (a INT PRIMARY KEY)"),
	}
	stores["rows out of order"] = made(t, setup)
	stores["rows out of order"].Tables[2].Rows = [][]api.Value{{{Kind: 2, Num: 1}}, {{Kind: 2, Num: 0}}}
	for _, sql := range []string{"CREATE TABLE w (a INT PRIMARY KEY)", "DROP TABLE t", "INSERT INTO t VALUES (1, 'x', TRUE, NULL)", "UPDATE t SET d = 1", "DELETE FROM t", "SELECT a FROM t"} {
		s := parsed(t, sql)
		tells(t, api.OK, sql)
		wrong := s
		wrong.Table = "none"
		for why, store := range stores {
			refuses(t, why+": "+sql, store, s, api.ErrStore)
			refuses(t, why+" and no table: "+sql, store, wrong, api.ErrStore)
			refuses(t, why+" and nothing", store, api.Stmt{}, api.ErrStore)
			for other, worse := range worsened(s) {
				refuses(t, why+" and "+other+": "+sql, store, worse, api.ErrStore)
			}
		}
		for why, worse := range worsened(s) {
			refuses(t, why+": "+sql, good, worse, api.ErrStmt)
			worse.Table = "none"
			refuses(t, "no table and "+why+": "+sql, good, worse, api.ErrStmt)
			refuses(t, "no tables and "+why+": "+sql, api.Store{}, worse, api.ErrStmt)
		}
		if s.Kind != 1 {
			refuses(t, "no tables: "+sql, api.Store{}, s, api.ErrNone)
		} else {
			refuses(t, "no tables: "+sql, api.Store{}, s, api.OK)
		}
	}
	for _, x := range []struct {
		why string
		s   api.Stmt
	}{
		{"an expression that may not be, and a table that is none", api.Stmt{Kind: 3, Table: "none", Sets: []api.Set{{}}}},
		{"an expression that may not be behind a column that is none", api.Stmt{Kind: 6, Table: "t", Items: []api.Item{{Kind: 1, Expr: expr(t, "zz")}, {Kind: 1}}}},
		{"a node that may not be behind a column that is none", api.Stmt{Kind: 5, Table: "t", Where: api.Expr{Nodes: []api.Node{{Kind: 2, Name: "zz"}, {Kind: 0}}}}},
		{"a Where that may not be, and an On that is wrong", api.Stmt{Kind: 6, Table: "t", Join: "t", On: expr(t, "zz"), Star: true, Where: api.Expr{Nodes: make([]api.Node, 1)}}},
	} {
		refuses(t, x.why, good, x.s, api.ErrStmt)
	}
}

// P13.2: CREATE.
func TestCreate(t *testing.T) {
	for _, x := range []struct {
		sql  string
		want api.Errno
	}{
		{"a INT PRIMARY KEY", api.OK},
		{"a INT, b INT, c INT, d INT, e INT, f INT PRIMARY KEY", api.OK},
		{"a INT PRIMARY KEY, b INT, c INT, d INT, e INT, f INT, g INT", api.ErrFull},
		{"a INT PRIMARY KEY, b INT, c INT, d INT, e INT, f INT, a INT", api.ErrFull},
		{"a INT, b INT, c INT, d INT, e INT, f INT, g INT", api.ErrFull},
		{"a INT PRIMARY KEY, a INT", api.ErrTwice},
		{"a INT PRIMARY KEY, b INT, c TEXT, b BOOL", api.ErrTwice},
		{"a INT, a INT", api.ErrTwice},
		{"a INT PRIMARY KEY, a INT PRIMARY KEY", api.ErrTwice},
		{"a INT, b INT, c INT, d INT, e INT, a INT", api.ErrTwice},
		{"a INT PRIMARY KEY, A INT, aa INT", api.OK},
		{"a INT", api.ErrKeys},
		{"a INT NOT NULL", api.ErrKeys},
		{"a INT PRIMARY KEY, b INT PRIMARY KEY", api.ErrKeys},
		{"a INT PRIMARY KEY, b INT, c INT PRIMARY KEY, d INT PRIMARY KEY", api.ErrKeys},
	} {
		for _, name := range []string{"t", "w"} {
			s := parsed(t, "CREATE TABLE "+name+" ("+x.sql+")")
			refuses(t, x.sql, made(t, setup), s, x.want)
			refuses(t, x.sql, api.Store{}, s, x.want)
		}
	}
	// What the table would be is not asked here: the columns' Types and Names, and what else Key goes with.
	s := api.Stmt{Kind: 1, Columns: []api.Defined{{Name: "", Type: 77, Key: true, NotNull: true}, {Name: "in to", Type: -1}}, Limit: -1}
	refuses(t, "odd columns", made(t, setup), s, api.OK)
}

// P13.2: DROP.
func TestDrop(t *testing.T) {
	tells(t, api.OK, "DROP TABLE t")
	tells(t, api.OK, "DROP TABLE v")
	for _, name := range []string{"w", "T", "tt", "a"} {
		tells(t, api.ErrNone, "DROP TABLE "+name)
	}
	refuses(t, "no name", made(t, setup), api.Stmt{Kind: 2}, api.ErrNone)
}

// P13.2: INSERT: no table, as many expressions as columns, then each of them.
func TestInsert(t *testing.T) {
	sql := "INSERT INTO t VALUES (-1, 'x', 1 < 2, NULL)"
	faults := []fault{
		{0, api.ErrNone, "no table", func(s *api.Stmt) { s.Table = "none" }},
		{1, api.ErrCount, "one more", func(s *api.Stmt) { s.Sets = append(s.Sets, api.Set{Expr: single()}) }},
		{1, api.ErrCount, "one less", func(s *api.Stmt) { s.Sets = s.Sets[:3] }},
	}
	for i, wrong := range []map[string]api.Errno{
		{"a": api.ErrColumn, "t.a": api.ErrColumn, "1 + a": api.ErrColumn, "1 + 'x'": api.ErrTypes, "'x'": api.ErrTypes, "TRUE": api.ErrTypes, "(1 + 'x') + a": api.ErrTypes, "a + (1 + 'x')": api.ErrColumn},
		{"b": api.ErrColumn, "NOT 1": api.ErrTypes, "1": api.ErrTypes, "TRUE": api.ErrTypes, "c = 1": api.ErrColumn, "-NULL": api.ErrTypes},
		{"c": api.ErrColumn, "1 = 'x'": api.ErrTypes, "'x'": api.ErrTypes, "0": api.ErrTypes, "NULL + 1": api.ErrTypes},
	} {
		faults = append(faults, exprFaults(t, 2+i, wrong, func(s *api.Stmt) *api.Expr { return &s.Sets[i].Expr })...)
	}
	all(t, sql, faults)
	for _, right := range []string{"INSERT INTO t VALUES (NULL, NULL, NULL, NULL)", "INSERT INTO u VALUES ('', 1 + NULL, NULL = NULL, NULL)", "INSERT INTO v VALUES (NULL IS NULL)", "INSERT INTO v VALUES (NULL AND NULL)"} {
		tells(t, api.OK, right)
	}
	for _, wrong := range []string{"INSERT INTO v VALUES (NULL + NULL)", "INSERT INTO v VALUES (1)", "INSERT INTO t VALUES (1, 2, TRUE, NULL)", "INSERT INTO t VALUES (1, 'x', TRUE, 'y')"} {
		tells(t, api.ErrTypes, wrong)
	}
}

// P13.2: UPDATE: no table; of each of Sets the column, the Key, twice, its expression, its type; then Where.
func TestUpdate(t *testing.T) {
	sql := "UPDATE t SET b = 'x', d = d + 1, c = a = d WHERE a > 1 AND c"
	faults := []fault{{0, api.ErrNone, "no table", func(s *api.Stmt) { s.Table = "none" }}}
	names := []map[string]api.Errno{
		{"zz": api.ErrColumn, "": api.ErrColumn, "n": api.ErrColumn, "a": api.ErrKeys},
		{"zz": api.ErrColumn, "a": api.ErrKeys, "b": api.ErrTwice},
		{"B": api.ErrColumn, "a": api.ErrKeys},
	}
	for i, wrong := range []map[string]api.Errno{
		{"zz": api.ErrColumn, "u.a": api.ErrColumn, "n": api.ErrColumn, "1 + 'x'": api.ErrTypes, "a": api.ErrTypes, "c": api.ErrTypes},
		{"zz = 'x'": api.ErrColumn, "v.k": api.ErrColumn, "b + 1": api.ErrTypes, "b": api.ErrTypes, "c": api.ErrTypes},
		{"zz": api.ErrColumn, "t.n": api.ErrColumn, "b < c": api.ErrTypes, "b": api.ErrTypes, "a": api.ErrTypes},
	} {
		for name, err := range names[i] {
			faults = append(faults, fault{1 + 2*i, err, fmt.Sprintf("SET %q at %d", name, i), func(s *api.Stmt) { s.Sets[i].Name = name }})
		}
		faults = append(faults, exprFaults(t, 2+2*i, wrong, func(s *api.Stmt) *api.Expr { return &s.Sets[i].Expr })...)
	}
	faults = append(faults, exprFaults(t, 7, map[string]api.Errno{"zz": api.ErrColumn, "u.c": api.ErrColumn, "c < c": api.ErrTypes, "a": api.ErrTypes, "b": api.ErrTypes}, func(s *api.Stmt) *api.Expr { return &s.Where })...)
	all(t, sql, faults)
	for sql, want := range map[string]api.Errno{
		"UPDATE t SET b = NULL, c = NULL, d = NULL":    api.OK,
		"UPDATE t SET c = a = 1 WHERE NULL":            api.OK,
		"UPDATE t SET a = 'x'":                         api.ErrKeys,
		"UPDATE t SET a = zz":                          api.ErrKeys,
		"UPDATE t SET b = 'x', a = 1, a = 2":           api.ErrKeys,
		"UPDATE t SET b = 'x', b = zz":                 api.ErrTwice,
		"UPDATE t SET b = 'x', d = 1, b = 'y'":         api.ErrTwice,
		"UPDATE t SET zz = 1, zz = 1":                  api.ErrColumn,
		"UPDATE t SET b = zz + 1, b = 'x'":             api.ErrColumn,
		"UPDATE u SET c = c":                           api.OK,
		"UPDATE u SET a = 'x'":                         api.ErrKeys,
		"UPDATE v SET k = TRUE":                        api.ErrKeys,
		"UPDATE t SET d = -NULL":                       api.OK,
		"UPDATE t SET b = -NULL":                       api.ErrTypes,
		"UPDATE t SET b = NOT NULL":                    api.ErrTypes,
		"UPDATE t SET d = a IS NULL":                   api.ErrTypes,
		"UPDATE t SET c = b IS NOT NULL WHERE b = 'x'": api.OK,
	} {
		tells(t, want, sql)
	}
}

// P13.2: DELETE: no table, then Where.
func TestDelete(t *testing.T) {
	faults := []fault{{0, api.ErrNone, "no table", func(s *api.Stmt) { s.Table = "none" }}}
	wrong := map[string]api.Errno{"zz": api.ErrColumn, "u.a = 'x'": api.ErrColumn, "1 = b": api.ErrTypes, "a": api.ErrTypes, "b": api.ErrTypes, "a + 1": api.ErrTypes, "-NULL": api.ErrTypes}
	all(t, "DELETE FROM t WHERE a > 1", append(faults, exprFaults(t, 1, wrong, func(s *api.Stmt) *api.Expr { return &s.Where })...))
	for _, right := range []string{"DELETE FROM t", "DELETE FROM v WHERE k", "DELETE FROM t WHERE NULL", "DELETE FROM t WHERE FALSE", "DELETE FROM u WHERE u.c OR e = a"} {
		tells(t, api.OK, right)
	}
}

// P13.2: SELECT: each row of what it says, in its order.
func TestSelect(t *testing.T) {
	sql := "SELECT d, COUNT(*), SUM(n + t.a), t.d FROM t INNER JOIN u ON b = u.a WHERE e = 'x' AND t.c GROUP BY d ORDER BY d DESC LIMIT 3"
	faults := []fault{
		{0, api.ErrNone, "no table", func(s *api.Stmt) { s.Table = "none" }},
		{1, api.ErrNone, "no Join", func(s *api.Stmt) { s.Join = "other" }},
		{2, api.ErrTwice, "both the same", func(s *api.Stmt) { s.Join = s.Table }},
		{5, api.ErrColumn, "Group of none", func(s *api.Stmt) { s.Group = api.Ref{Name: "zz"} }},
		{5, api.ErrColumn, "Group of another table", func(s *api.Stmt) { s.Group = api.Ref{Table: "v", Name: "k"} }},
		{5, api.ErrColumn, "Group without a Name", func(s *api.Stmt) { s.Group = api.Ref{Table: "t"} }},
		{5, api.ErrTwice, "Group of two", func(s *api.Stmt) { s.Group = api.Ref{Name: "a"} }},
		{10, api.ErrColumn, "Order of none", func(s *api.Stmt) { s.Order = api.Ref{Table: "u", Name: "d"} }},
		{10, api.ErrColumn, "Order without a Name", func(s *api.Stmt) { s.Order = api.Ref{Table: "u"} }},
		{10, api.ErrTwice, "Order of two", func(s *api.Stmt) { s.Order = api.Ref{Name: "c"} }},
		{11, api.ErrGroup, "another Group", func(s *api.Stmt) { s.Group = api.Ref{Name: "e"} }},
		{11, api.ErrGroup, "no Group", func(s *api.Stmt) { s.Group = api.Ref{} }},
		{11, api.ErrGroup, "another item", func(s *api.Stmt) { s.Items = append(s.Items, api.Item{Kind: 1, Expr: single()}) }},
	}
	whole := map[string]api.Errno{"zz": api.ErrColumn, "v.k": api.ErrColumn, "a = 1": api.ErrTwice, "c": api.ErrTwice, "n + e": api.ErrTypes, "n": api.ErrTypes, "e": api.ErrTypes, "t.a + u.n": api.ErrTypes}
	faults = append(faults, exprFaults(t, 3, whole, func(s *api.Stmt) *api.Expr { return &s.On })...)
	faults = append(faults, exprFaults(t, 4, whole, func(s *api.Stmt) *api.Expr { return &s.Where })...)
	inner := map[string]api.Errno{"zz": api.ErrColumn, "t.n": api.ErrColumn, "a": api.ErrTwice, "c OR zz": api.ErrTwice, "NOT n": api.ErrTypes, "t.a = u.a": api.ErrTypes}
	faults = append(faults, exprFaults(t, 6, inner, func(s *api.Stmt) *api.Expr { return &s.Items[0].Expr })...)
	sums := map[string]api.Errno{"zz": api.ErrColumn, "c": api.ErrTwice, "e": api.ErrTypes, "t.c": api.ErrTypes, "n = 1": api.ErrTypes}
	faults = append(faults, exprFaults(t, 8, sums, func(s *api.Stmt) *api.Expr { return &s.Items[2].Expr })...)
	faults = append(faults, exprFaults(t, 9, inner, func(s *api.Stmt) *api.Expr { return &s.Items[3].Expr })...)
	all(t, sql, faults)
}

// P13.2: of two tables that are none, or one that is none twice, it is ErrNone.
func TestSelectTables(t *testing.T) {
	for sql, want := range map[string]api.Errno{
		"SELECT * FROM w INNER JOIN w ON TRUE":                 api.ErrNone,
		"SELECT * FROM w INNER JOIN t ON zz":                   api.ErrNone,
		"SELECT * FROM t INNER JOIN w ON zz":                   api.ErrNone,
		"SELECT * FROM t INNER JOIN t ON zz":                   api.ErrTwice,
		"SELECT * FROM t INNER JOIN T ON zz":                   api.ErrNone,
		"SELECT * FROM t INNER JOIN u ON zz":                   api.ErrColumn,
		"SELECT * FROM t INNER JOIN u ON TRUE":                 api.OK,
		"SELECT * FROM t INNER JOIN u ON NULL":                 api.OK,
		"SELECT * FROM u INNER JOIN t ON t.a = n":              api.OK,
		"SELECT * FROM v INNER JOIN t ON k WHERE c ORDER BY d": api.OK,
		"SELECT SUM(NULL) FROM t":                              api.OK,
		"SELECT SUM(-NULL), SUM(a * d) FROM t":                 api.OK,
		"SELECT SUM(b IS NULL) FROM t":                         api.ErrTypes,
		"SELECT SUM(TRUE) FROM t":                              api.ErrTypes,
		"SELECT NULL, 'x', 1, TRUE FROM v":                     api.OK,
	} {
		tells(t, want, sql)
	}
}

// P13.2: an expression's errors come node by node, those of the whole type behind them.
func TestNodeByNode(t *testing.T) {
	for text, want := range map[string]api.Errno{
		"zz + (TRUE + 1) > 0":                api.ErrColumn,
		"(TRUE + 1) + zz > 0":                api.ErrTypes,
		"TRUE + zz":                          api.ErrColumn,
		"c AND zz":                           api.ErrTwice,
		"zz AND c":                           api.ErrColumn,
		"u.c AND (n AND c)":                  api.ErrTwice,
		"(n AND u.c) AND c":                  api.ErrTypes,
		"NOT 'x' OR c":                       api.ErrTypes,
		"c OR NOT 'x'":                       api.ErrTwice,
		"n + e + zz":                         api.ErrTypes,
		"n + (e + zz)":                       api.ErrColumn,
		"n":                                  api.ErrTypes,
		"n + zz":                             api.ErrColumn,
		"(n = e) IS NULL":                    api.ErrTypes,
		"zz IS NULL":                         api.ErrColumn,
		"a IS NOT NULL":                      api.ErrTwice,
		"NULL":                               api.OK,
		"NOT (n + t.a * 2 % d >= -n) OR u.c": api.OK,
	} {
		for _, sql := range []string{"SELECT * FROM t INNER JOIN u ON " + text, "SELECT t.a FROM u INNER JOIN t ON TRUE WHERE " + text} {
			tells(t, want, sql)
		}
	}
	// Nodes of which the last one is not are checked, too.
	for err, n := range map[api.Errno]api.Node{api.ErrColumn: {Kind: 2, Name: "zz"}, api.ErrTypes: {Kind: 4, A: 0}, api.OK: {Kind: 2, Name: "b"}} {
		s := api.Stmt{Kind: 5, Table: "t", Where: api.Expr{Nodes: []api.Node{{Kind: 1, Value: api.Value{Kind: 2}}, n, {Kind: 3, A: 0}}}}
		refuses(t, fmt.Sprint(n), made(t, setup), s, err)
	}
}

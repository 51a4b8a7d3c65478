package parse_test

import (
	"math"
	"strings"
	"testing"

	"tallyhouse/api"
	"tallyhouse/lex"
	"tallyhouse/parse"
)

// prints fails the test where a statement has another text.
func prints(t *testing.T, want string, s api.Stmt) {
	t.Helper()
	if got := parse.Print(s); got != want {
		t.Errorf("%s: %q; not %q", said(s), got, want)
	}
}

// P11.2: each kind of statement with each part and without, one blank between each two tokens.
func TestPrintStmts(t *testing.T) {
	for sql, want := range map[string]string{
		"create table T(a int primary key,b text not null,c bool)": "CREATE TABLE T ( a INT PRIMARY KEY , b TEXT NOT NULL , c BOOL )",
		"create table t(a int)":   "CREATE TABLE t ( a INT )",
		"drop  table t;":          "DROP TABLE t",
		"insert into t values(1)": "INSERT INTO t VALUES ( 1 )",
		"insert into t values(007,'it''s',true,false,null,u.a)": "INSERT INTO t VALUES ( 7 , 'it''s' , TRUE , FALSE , NULL , u . a )",
		"update t set a=1":                               "UPDATE t SET a = 1",
		"update t set a=b+1,c=d where a=1":               "UPDATE t SET a = ( b + 1 ) , c = d WHERE ( a = 1 )",
		"delete from t":                                  "DELETE FROM t",
		"delete from t where a":                          "DELETE FROM t WHERE a",
		"select*from t":                                  "SELECT * FROM t",
		"select a from t":                                "SELECT a FROM t",
		"select t.a,count(*),sum(a),sum(a+1),1+a from t": "SELECT t . a , COUNT ( * ) , SUM ( a ) , SUM ( ( a + 1 ) ) , ( 1 + a ) FROM t",
		"select*from t inner join u on t.a=u.a":          "SELECT * FROM t INNER JOIN u ON ( t . a = u . a )",
		"select*from t where(a)":                         "SELECT * FROM t WHERE a",
		"select*from t group by a":                       "SELECT * FROM t GROUP BY a",
		"select*from t group by t.a":                     "SELECT * FROM t GROUP BY t . a",
		"select*from t order by a":                       "SELECT * FROM t ORDER BY a",
		"select*from t order by t.a asc":                 "SELECT * FROM t ORDER BY t . a",
		"select*from t order by a desc":                  "SELECT * FROM t ORDER BY a DESC",
		"select*from t limit 0":                          "SELECT * FROM t LIMIT 0",
		"select*from t limit 9223372036854775807":        "SELECT * FROM t LIMIT 9223372036854775807",
		"select a from t inner join u on b where c group by d order by e limit 10": "SELECT a FROM t INNER JOIN u ON b WHERE c GROUP BY d ORDER BY e LIMIT 10",
	} {
		s := one(t, sql)
		prints(t, want, s)
		if !parse.Same(one(t, want), s) {
			t.Errorf("%q: not the same", want)
		}
	}
}

// P11.2: brackets around each row but values and columns.
func TestPrintBrackets(t *testing.T) {
	for sql, want := range map[string]string{
		"((a))": "a", "(1)": "1", "('')": "''", "(t.a)": "t . a", "not a": "( NOT a )", "-a": "( - a )", "-5": "( - 5 )", "- -5": "( - ( - 5 ) )", "not not a": "( NOT ( NOT a ) )",
		"a or b": "( a OR b )", "a and b": "( a AND b )", "a is null": "( a IS NULL )", "a is not null": "( a IS NOT NULL )", "a+b+c": "( ( a + b ) + c )", "a+(b+c)": "( a + ( b + c ) )", "-a*b": "( ( - a ) * b )", "-(a*b)": "( - ( a * b ) )",
		"not a=1 and b is null or c": "( ( ( NOT ( a = 1 ) ) AND ( b IS NULL ) ) OR c )", "(a=b) is not null": "( ( a = b ) IS NOT NULL )", "not(a or b)": "( NOT ( a OR b ) )",
	} {
		prints(t, "DELETE FROM t WHERE "+want, one(t, "DELETE FROM t WHERE "+sql))
		prints(t, "SELECT "+want+" , SUM ( "+want+" ) FROM t INNER JOIN u ON "+want, one(t, "SELECT "+sql+",SUM("+sql+") FROM t INNER JOIN u ON "+sql))
		prints(t, "UPDATE t SET a = "+want+" , b = "+want, one(t, "UPDATE t SET a="+sql+",b="+sql))
		prints(t, "INSERT INTO t VALUES ( "+want+" )", one(t, "INSERT INTO t VALUES("+sql+")"))
	}
	for _, op := range allOps() {
		prints(t, "DELETE FROM t WHERE ( a "+op+" 'b' )", api.Stmt{Kind: 5, Table: "t", Where: of(op, col("a"), text("b")).expr(), Limit: -1})
	}
}

// P11.2: values below 0, which no text has: a sign and the size, in brackets.
func TestPrintBelowZero(t *testing.T) {
	for n, want := range map[int64]string{-1: "( - 1 )", -7: "( - 7 )", math.MinInt64: "( - 9223372036854775808 )", math.MinInt64 + 1: "( - 9223372036854775807 )", 0: "0", math.MaxInt64: "9223372036854775807"} {
		prints(t, "DELETE FROM t WHERE "+want, api.Stmt{Kind: 5, Table: "t", Where: num(n).expr()})
		prints(t, "INSERT INTO t VALUES ( "+want+" , ( a + "+want+" ) , ( - "+want+" ) )", api.Stmt{Kind: 3, Table: "t", Sets: []api.Set{{Expr: num(n).expr()}, {Expr: of("+", col("a"), num(n)).expr()}, {Expr: of("minus", num(n)).expr()}}})
		prints(t, "SELECT SUM ( "+want+" ) FROM t", api.Stmt{Kind: 6, Table: "t", Items: []api.Item{{Kind: 3, Expr: num(n).expr()}}, Limit: -1})
	}
	back := one(t, parse.Print(api.Stmt{Kind: 5, Table: "t", Where: num(-7).expr()}))
	if want := (api.Stmt{Kind: 5, Table: "t", Where: of("minus", num(7)).expr(), Limit: -1}); !parse.Same(back, want) {
		t.Error(said(back))
	}
}

// P11.2: a text is of whatever length, and of whatever depth: more than lex, or Parse, would take.
func TestPrintLong(t *testing.T) {
	tree, want := col("a"), "a"
	for range 2000 {
		tree, want = of("NOT", tree), "( NOT "+want+" )"
	}
	prints(t, "DELETE FROM t WHERE "+want, api.Stmt{Kind: 5, Table: "t", Where: tree.expr()})
	chain := "DELETE FROM t WHERE a" + strings.Repeat(" + a", 100)
	prints(t, "DELETE FROM t WHERE "+strings.Repeat("( ", 100)+"a"+strings.Repeat(" + a )", 100), one(t, chain))
	many := make([]api.Set, 1000)
	for i := range many {
		many[i].Expr = text(strings.Repeat("'", 100)).expr()
	}
	quoted := " '" + strings.Repeat("'", 200) + "'"
	prints(t, "INSERT INTO t VALUES ("+strings.Repeat(quoted+" ,", 999)+quoted+" )", api.Stmt{Kind: 3, Table: "t", Sets: many})
}

// P11.2: rows that are no part of the whole one are not written, and what two rows are of is written twice.
func TestPrintOtherRows(t *testing.T) {
	a, b := api.Node{Kind: 2, Name: "a"}, api.Node{Kind: 2, Name: "b"}
	for want, nodes := range map[string][]api.Node{
		"b":                          {a, b},
		"( a + a )":                  {a, {Kind: 8, Op: 1}},
		"( NOT a )":                  {a, b, {Kind: 3, A: 0}},
		"( b - a )":                  {a, b, {Kind: 8, Op: 2, A: 1, B: 0}},
		"( ( a = b ) OR ( a = b ) )": {a, b, {Kind: 7, Op: 1, A: 0, B: 1}, {Kind: 6, A: 2, B: 2}},
	} {
		prints(t, "DELETE FROM t WHERE "+want, api.Stmt{Kind: 5, Table: "t", Where: api.Expr{Nodes: nodes}})
	}
}

// P11.2: fields that don't count for a Kind are not written.
func TestPrintWhatCounts(t *testing.T) {
	a := col("a").expr()
	all := api.Stmt{Table: "t", Join: "u", Columns: []api.Defined{{Name: "c", Type: 3}}, Sets: []api.Set{{Name: "s", Expr: a}}, Items: []api.Item{{Kind: 2, Expr: a}}, On: a, Where: a, Group: api.Ref{Name: "g"}, Order: api.Ref{Name: "o"}, Desc: true, Limit: 1}
	for kind, want := range []string{
		"", "CREATE TABLE t ( c INT )", "DROP TABLE t", "INSERT INTO t VALUES ( a )", "UPDATE t SET s = a WHERE a", "DELETE FROM t WHERE a",
		"SELECT COUNT ( * ) FROM t INNER JOIN u ON a WHERE a GROUP BY g ORDER BY o DESC LIMIT 1", "",
	} {
		all.Kind = kind
		prints(t, want, all)
	}
	all.Kind, all.Star, all.Join, all.Order, all.Limit = 6, true, "", api.Ref{}, -1
	prints(t, "SELECT * FROM t WHERE a GROUP BY g", all)
	e := api.Expr{Nodes: []api.Node{{Kind: 1, Op: 3, A: 7, B: 9, Name: "x", Value: api.Value{Kind: 1}}, {Kind: 2, Op: 1, A: 5, Table: "t", Name: "a", Value: api.Value{Kind: 3}}, {Kind: 5, Op: 4, A: 0, B: 1, Name: "y"}, {Kind: 9, Op: 2, A: 2, B: 77}, {Kind: 6, Op: 1, A: 3, B: 3}}}
	prints(t, "DELETE FROM t WHERE ( ( ( NULL AND t . a ) IS NULL ) OR ( ( NULL AND t . a ) IS NULL ) )", api.Stmt{Kind: 5, Table: "t", Where: e})
}

// R1: Print of whatever there is ends, and writes no more than there is.
func TestPrintEnds(t *testing.T) {
	far := []int{0, 1, 2, 3, -1, math.MaxInt, math.MinInt}
	for kind := -1; kind <= 12; kind++ {
		for _, a := range far {
			for _, b := range far {
				for _, op := range []int{-1, 0, 1, 5, 6, 7, math.MaxInt} {
					n := api.Node{Kind: kind, Op: op, A: a, B: b}
					e := api.Expr{Nodes: []api.Node{n, n, n}}
					for stmt := range 8 {
						s := api.Stmt{Kind: stmt, Columns: []api.Defined{{Type: op}}, Sets: []api.Set{{Expr: e}}, Items: []api.Item{{Kind: kind, Expr: e}}, Join: "u", On: e, Where: e, Limit: a}
						if got := parse.Print(s); len(got) > 500 {
							t.Fatalf("%s: %q", said(s), got)
						}
						if !parse.Same(s, s) {
							t.Fatalf("%s: not the same", said(s))
						}
					}
				}
			}
		}
	}
	prints(t, "", api.Stmt{})
	for _, empty := range []api.Stmt{{Kind: 1}, {Kind: 3}, {Kind: 4}, {Kind: 6}, {Kind: 6, Items: []api.Item{{}}}, {Kind: 4, Sets: []api.Set{{}}}, {Kind: 1, Columns: []api.Defined{{}}}} {
		parse.Print(empty)
	}
	back := make([]api.Node, 50000)
	for i := range back {
		back[i] = api.Node{Kind: 3, A: i - 1}
	}
	if got := parse.Print(api.Stmt{Kind: 5, Table: "t", Where: api.Expr{Nodes: back}}); strings.Count(got, "NOT") != len(back) {
		t.Errorf("%d rows", strings.Count(got, "NOT"))
	}
}

// P11.2: a text is its tokens as lex.Print writes them.
func TestPrintAsLex(t *testing.T) {
	for _, sql := range some {
		all, _ := parse.Parse(sql)
		for _, s := range all {
			got := parse.Print(s)
			toks, spot := lex.Lex(got)
			if again, err := lex.Print(toks); again != got || spot != (api.Spot{}) || err != api.OK {
				t.Errorf("%q: %q", got, again)
			}
		}
	}
}

package parse_test

import (
	"strings"
	"testing"

	"tallyhouse/api"
)

// P11.1: CREATE, with columns of each type, with PRIMARY KEY, with NOT NULL, and with neither.
func TestCreate(t *testing.T) {
	parses(t, "CREATE TABLE t (a INT PRIMARY KEY, b TEXT)", api.Stmt{Kind: 1, Table: "t", Limit: -1, Columns: []api.Defined{
		{Name: "a", Type: 3, Key: true}, {Name: "b", Type: 4},
	}})
	parses(t, "create table Tab(_x bool);", api.Stmt{Kind: 1, Table: "Tab", Limit: -1, Columns: []api.Defined{{Name: "_x", Type: 2}}})
	var columns []api.Defined
	var texts []string
	for word, number := range map[string]int{"BOOL": 2, "INT": 3, "TEXT": 4} {
		columns = append(columns, api.Defined{Name: "c", Type: number}, api.Defined{Name: "d", Type: number, Key: true}, api.Defined{Name: "e", Type: number, NotNull: true})
		texts = append(texts, "c "+word, "d "+word+" PRIMARY KEY", "e "+word+" NOT NULL")
	}
	parses(t, "CREATE TABLE c ("+strings.Join(texts, ", ")+")", api.Stmt{Kind: 1, Table: "c", Limit: -1, Columns: columns})
	for _, text := range []string{
		"CREATE ^t (a INT)", "CREATE TABLE ^(a INT)", "CREATE TABLE t ^a INT", "CREATE TABLE t (^)", "CREATE TABLE t (^INT)", "CREATE TABLE t (a^)",
		"CREATE TABLE t (a ^b)", "CREATE TABLE t (a INT^", "CREATE TABLE t (a INT,^)", "CREATE TABLE t (a INT PRIMARY^)", "CREATE TABLE t (a INT ^KEY)",
		"CREATE TABLE t (a INT NOT^)", "CREATE TABLE t (a INT ^NULL)", "CREATE TABLE t (a INT PRIMARY KEY ^NOT NULL)", "CREATE TABLE t (a INT NOT NULL ^PRIMARY KEY)",
		"CREATE TABLE t (a INT ^INT)", "CREATE TABLE t (a INT ^b TEXT)", "CREATE TABLE t (a INT) ^WHERE a", "CREATE TABLE t^.u (a INT)", "CREATE TABLE t (a^.b INT)", "CREATE TABLE ^'t' (a INT)",
	} {
		failsHere(t, 210, text)
	}
}

// P11.1: DROP.
func TestDrop(t *testing.T) {
	parses(t, "DROP TABLE t", api.Stmt{Kind: 2, Table: "t", Limit: -1})
	parses(t, "drop Table Drop_ ;", api.Stmt{Kind: 2, Table: "Drop_", Limit: -1})
	for _, text := range []string{"DROP^", "DROP ^t", "DROP TABLE^", "DROP TABLE ^table", "DROP TABLE ^1", "DROP TABLE ^'t'", "DROP TABLE ^;", "DROP TABLE t ^u", "DROP TABLE t^, u", "DROP TABLE t^.u", "DROP TABLE ^(t)"} {
		failsHere(t, 210, text)
	}
}

// P11.1: INSERT.
func TestInsert(t *testing.T) {
	parses(t, "INSERT INTO t VALUES (1)", api.Stmt{Kind: 3, Table: "t", Limit: -1, Sets: []api.Set{{Expr: num(1).expr()}}})
	parses(t, "INSERT INTO t VALUES (1, 'x', NULL, TRUE, - 5, a = b)", api.Stmt{Kind: 3, Table: "t", Limit: -1, Sets: []api.Set{
		{Expr: num(1).expr()}, {Expr: text("x").expr()}, {Expr: null().expr()}, {Expr: truth(1).expr()}, {Expr: of("minus", num(5)).expr()}, {Expr: of("=", col("a"), col("b")).expr()},
	}})
	parses(t, "INSERT INTO t VALUES ((1), (2))", api.Stmt{Kind: 3, Table: "t", Limit: -1, Sets: []api.Set{{Expr: num(1).expr()}, {Expr: num(2).expr()}}})
	for _, text := range []string{
		"INSERT ^t VALUES (1)", "INSERT INTO ^VALUES (1)", "INSERT INTO t ^(1)", "INSERT INTO t ^(a) VALUES (1)", "INSERT INTO t VALUES ^1", "INSERT INTO t VALUES (^)", "INSERT INTO t VALUES (1,^)",
		"INSERT INTO t VALUES (1^", "INSERT INTO t VALUES (1 ^2)", "INSERT INTO t VALUES (1)^, (2)", "INSERT INTO t VALUES (^*)", "INSERT INTO t VALUES (^COUNT(*))", "INSERT INTO t VALUES (1) ^WHERE TRUE", "INSERT INTO t VALUES (1^;)",
	} {
		failsHere(t, 210, text)
	}
}

// P11.1: UPDATE, with WHERE and without.
func TestUpdate(t *testing.T) {
	parses(t, "UPDATE t SET a = 1", api.Stmt{Kind: 4, Table: "t", Limit: -1, Sets: []api.Set{{Name: "a", Expr: num(1).expr()}}})
	parses(t, "UPDATE t SET a = b = c, d = NULL WHERE t.a <> 2", api.Stmt{Kind: 4, Table: "t", Limit: -1, Sets: []api.Set{
		{Name: "a", Expr: of("=", col("b"), col("c")).expr()}, {Name: "d", Expr: null().expr()},
	}, Where: of("<>", col("t.a"), num(2)).expr()})
	for _, text := range []string{
		"UPDATE ^SET a = 1", "UPDATE t ^a = 1", "UPDATE t SET ^= 1", "UPDATE t SET a ^1", "UPDATE t SET a =^", "UPDATE t SET a = ^, b = 1", "UPDATE t SET a = 1,^", "UPDATE t SET a = 1, ^WHERE TRUE", "UPDATE t SET t^.a = 1",
		"UPDATE t SET a ^<> 1", "UPDATE t SET a = b = c ^= d", "UPDATE t SET a = 1 ^b = 2", "UPDATE t SET a = 1 WHERE^", "UPDATE t SET a = 1 WHERE a = 1^, b = 2", "UPDATE t SET a = 1 WHERE TRUE ^WHERE TRUE", "UPDATE t SET a = 1 ^LIMIT 1", "UPDATE t ^WHERE TRUE",
	} {
		failsHere(t, 210, text)
	}
}

// P11.1: DELETE, with WHERE and without.
func TestDelete(t *testing.T) {
	parses(t, "DELETE FROM t", api.Stmt{Kind: 5, Table: "t", Limit: -1})
	parses(t, "DELETE FROM t WHERE a", api.Stmt{Kind: 5, Table: "t", Limit: -1, Where: col("a").expr()})
	for _, text := range []string{"DELETE ^t", "DELETE ^* FROM t", "DELETE FROM^", "DELETE FROM t ^a", "DELETE FROM t WHERE^", "DELETE FROM t WHERE ^;", "DELETE FROM t WHERE a ^b", "DELETE FROM t ^ORDER BY a", "DELETE FROM t^, u", "DELETE FROM t WHERE a ^LIMIT 1"} {
		failsHere(t, 210, text)
	}
}

// P11.1: SELECT with each part that may be missing, and without, in all ways.
func TestSelectParts(t *testing.T) {
	cond := of(">", col("a"), num(0)).expr()
	for ways := range 64 {
		sql, s := "SELECT * FROM t", api.Stmt{Kind: 6, Table: "t", Star: true, Limit: -1}
		if ways&1 > 0 {
			sql, s.Join, s.On = sql+" INNER JOIN u ON a > 0", "u", cond
		}
		if ways&2 > 0 {
			sql, s.Where = sql+" WHERE a > 0", cond
		}
		if ways&4 > 0 {
			sql, s.Group = sql+" GROUP BY u.g", api.Ref{Table: "u", Name: "g"}
		}
		if ways&8 > 0 {
			sql, s.Order = sql+" ORDER BY o", api.Ref{Name: "o"}
		}
		if ways&16 > 0 {
			sql, s.Limit = sql+" LIMIT 7", 7
		}
		if ways&32 > 0 {
			sql += ";"
		}
		parses(t, sql, s)
	}
}

// P11.1: what is ordered by: ASC, DESC, or neither, also with a table.
func TestOrder(t *testing.T) {
	for _, way := range []string{"", " ASC", " DESC"} {
		for _, limit := range []string{"", " LIMIT 0"} {
			want := api.Stmt{Kind: 6, Table: "t", Star: true, Order: api.Ref{Name: "a"}, Desc: way == " DESC", Limit: -1 + len(limit)/8}
			parses(t, "SELECT * FROM t ORDER BY a"+way+limit, want)
			want.Order.Table = "t"
			parses(t, "SELECT * FROM t ORDER BY t.a"+way+limit, want)
		}
	}
	for _, text := range []string{
		"SELECT * FROM t ORDER ^a", "SELECT * FROM t ORDER BY^", "SELECT * FROM t ORDER BY ^1", "SELECT * FROM t ORDER BY ^ASC", "SELECT * FROM t ORDER BY a ASC ^DESC", "SELECT * FROM t ORDER BY a DESC ^ASC", "SELECT * FROM t ORDER BY a DESC ^DESC",
		"SELECT * FROM t ORDER BY a^, b", "SELECT * FROM t ORDER BY t.^", "SELECT * FROM t ORDER BY t.a^.b", "SELECT * FROM t ORDER BY a ^+ 1", "SELECT * FROM t ORDER BY ^(a)", "SELECT * FROM t ^ASC", "SELECT * FROM t ^DESC",
	} {
		failsHere(t, 210, text)
	}
}

// P11.1: the parts of SELECT stand in their order, none twice.
func TestSelectOrder(t *testing.T) {
	parts := []string{"INNER JOIN u ON a", "WHERE a", "GROUP BY a", "ORDER BY a", "LIMIT 1"}
	for i, first := range parts {
		for j, second := range parts {
			if ahead := "SELECT * FROM t " + first + " "; j <= i {
				fails(t, ahead+second, 210, len(ahead))
			} else if got := one(t, ahead+second); got.Kind != 6 {
				t.Error(said(got))
			}
		}
	}
	for _, text := range []string{
		"SELECT^", "SELECT ^FROM t", "SELECT * ^t", "SELECT *^", "SELECT * FROM^", "SELECT * FROM ^WHERE a", "SELECT * FROM t^, u", "SELECT * FROM t ^u", "SELECT * FROM t ^JOIN u ON a", "SELECT * FROM t INNER ^u ON a",
		"SELECT * FROM t INNER JOIN ^ON a", "SELECT * FROM t INNER JOIN u ^a", "SELECT * FROM t INNER JOIN u^", "SELECT * FROM t INNER JOIN u ^WHERE a", "SELECT * FROM t INNER JOIN u ON^", "SELECT * FROM t INNER JOIN u ON ^WHERE a", "SELECT * FROM t ^ON a",
		"SELECT * FROM t GROUP ^a", "SELECT * FROM t GROUP BY^", "SELECT * FROM t GROUP BY a.b^.c", "SELECT * FROM t GROUP BY a ^DESC", "SELECT * FROM t GROUP BY a^, b", "SELECT * FROM t ^BY a", "SELECT * FROM t^.u", "SELECT * FROM t INNER JOIN u^.v ON a",
	} {
		failsHere(t, 210, text)
	}
}

// P11.1: LIMIT takes a number as it stands, from 0 on.
func TestLimit(t *testing.T) {
	for text, n := range map[string]int{"0": 0, "1": 1, "007": 7, "255": 255, "9223372036854775807": 1<<63 - 1} {
		parses(t, "SELECT * FROM t LIMIT "+text, api.Stmt{Kind: 6, Table: "t", Star: true, Limit: n})
	}
	for _, text := range []string{"SELECT * FROM t LIMIT^", "SELECT * FROM t LIMIT ^;", "SELECT * FROM t LIMIT ^- 1", "SELECT * FROM t LIMIT ^a", "SELECT * FROM t LIMIT ^(1)", "SELECT * FROM t LIMIT ^'1'", "SELECT * FROM t LIMIT ^NULL", "SELECT * FROM t LIMIT 1 ^+ 1", "SELECT * FROM t LIMIT 1^, 2", "SELECT * FROM t LIMIT 1 ^2"} {
		failsHere(t, 210, text)
	}
	fails(t, "SELECT * FROM t LIMIT 9223372036854775808", 201, 22)
}

// P11.1: items: the sign *, an expression, COUNT ( * ), SUM ( expression ).
func TestItems(t *testing.T) {
	a := col("a").expr()
	parses(t, "SELECT a, COUNT(*), SUM(a), SUM((a)), t.a, count ( * ) FROM t", api.Stmt{Kind: 6, Table: "t", Limit: -1, Items: []api.Item{
		{Kind: 1, Expr: a}, {Kind: 2}, {Kind: 3, Expr: a}, {Kind: 3, Expr: a}, {Kind: 1, Expr: col("t.a").expr()}, {Kind: 2},
	}})
	parses(t, "SELECT COUNT(*) FROM t", api.Stmt{Kind: 6, Table: "t", Limit: -1, Items: []api.Item{{Kind: 2}}})
	parses(t, "SELECT SUM(a + 1) FROM t", api.Stmt{Kind: 6, Table: "t", Limit: -1, Items: []api.Item{{Kind: 3, Expr: of("+", col("a"), num(1)).expr()}}})
	for _, text := range []string{
		"SELECT *^, a FROM t", "SELECT a, ^* FROM t", "SELECT * ^* FROM t", "SELECT (^*) FROM t", "SELECT a,^", "SELECT a, ^FROM t", "SELECT ^, a FROM t", "SELECT a ^b FROM t", "SELECT COUNT ^FROM t", "SELECT COUNT ^* FROM t",
		"SELECT COUNT(^) FROM t", "SELECT COUNT(^a) FROM t", "SELECT COUNT(* ^FROM t", "SELECT COUNT(*^, a) FROM t", "SELECT COUNT(*) ^+ 1 FROM t", "SELECT 1 + ^COUNT(*) FROM t", "SELECT (^COUNT(*)) FROM t", "SELECT - ^SUM(a) FROM t",
		"SELECT SUM ^a FROM t", "SELECT SUM(^) FROM t", "SELECT SUM(^*) FROM t", "SELECT SUM(a^, b) FROM t", "SELECT SUM(^SUM(a)) FROM t", "SELECT SUM(a) ^= 1 FROM t", "SELECT SUM(a ^FROM t", "SELECT * FROM t WHERE ^COUNT(*)", "SELECT a.^* FROM t",
	} {
		failsHere(t, 210, text)
	}
}

// P11.1: a text may begin with one of the six words alone.
func TestFirstWords(t *testing.T) {
	for _, word := range lexWords() {
		switch word {
		case "CREATE", "DROP", "INSERT", "UPDATE", "DELETE", "SELECT":
			fails(t, word, 210, len(word))
		default:
			fails(t, word, 210, 0)
			fails(t, "DROP TABLE t; "+word, 210, 14)
		}
	}
}

// P11.1: names and texts at their limits, in whatever place; a kept word is no name, in whatever case.
func TestNames(t *testing.T) {
	long := strings.Repeat("n", 24)
	parses(t, "DROP TABLE "+long, api.Stmt{Kind: 2, Table: long, Limit: -1})
	fails(t, "DROP TABLE "+long+"n", 200, 11)
	said := strings.Repeat("'", 64)
	means(t, "'"+said+said+"'", text(said))
	fails(t, "INSERT INTO t VALUES ('"+said+said+"x')", 200, 22)
	means(t, long+"."+long, col(long+"."+long))
	for _, kept := range []string{"select", "From", "KEY", "text", "Sum", "by"} {
		fails(t, "DROP TABLE "+kept, 210, 11)
		fails(t, "UPDATE t SET "+kept+" = 1", 210, 13)
	}
	parses(t, "DROP TABLE selects", api.Stmt{Kind: 2, Table: "selects", Limit: -1})
}

// P11.1: a quoted text that says a word or a sign is neither.
func TestQuotedWords(t *testing.T) {
	for _, text := range []string{
		"^'SELECT' * FROM t", "SELECT '*' ^'*' FROM t", "SELECT * ^'FROM' t", "DROP ^'TABLE' t", "DROP TABLE t ^';'", "DELETE FROM t WHERE a ^'=' b", "DELETE FROM t WHERE a ^'+' b", "DELETE FROM t WHERE a ^'AND' b", "DELETE FROM t WHERE a ^'.' b",
		"INSERT INTO t VALUES ^'('", "INSERT INTO t VALUES (1 ^',' 2)", "INSERT INTO t VALUES (1 ^')'", "CREATE TABLE t (a ^'INT')", "SELECT * FROM t ORDER BY a ^'DESC'", "DELETE FROM t WHERE 'NOT' ^a", "DELETE FROM t WHERE '-' ^a", "DELETE FROM t WHERE a ^'IS' NULL",
	} {
		failsHere(t, 210, text)
	}
	means(t, "'NULL' = '*'", of("=", text("NULL"), text("*")))
	means(t, "'('", text("("))
}

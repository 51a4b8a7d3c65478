package parse_test

import (
	"strings"
	"testing"

	"tallyhouse/api"
)

// drops are so many statements, each with ; and a blank behind it.
func drops(many int) string {
	return strings.Repeat("DROP TABLE t; ", many)
}

// P11.1: one to MaxStmts statements, with the last ; and without.
func TestSomeStmts(t *testing.T) {
	var want []api.Stmt
	for many := 1; many <= api.MaxStmts; many++ {
		want = append(want, api.Stmt{Kind: 2, Table: "t", Limit: -1})
		sql := strings.TrimSpace(drops(many))
		parses(t, sql, want...)
		parses(t, strings.TrimSuffix(sql, ";"), want...)
		parses(t, sql+" -- ;", want...)
		fails(t, sql+";", 210, len(sql))
		fails(t, sql+" x", 210, len(sql)+1)
		if many < api.MaxStmts {
			fails(t, sql+"DROP", 210, len(sql)+4)
		}
	}
	parses(t, "DROP TABLE t;DELETE FROM u;INSERT INTO v VALUES(1)", want[0], api.Stmt{Kind: 5, Table: "u", Limit: -1}, api.Stmt{Kind: 3, Table: "v", Sets: []api.Set{{Expr: num(1).expr()}}, Limit: -1})
	failsHere(t, 210, "DROP TABLE t ^DROP TABLE t")
	failsHere(t, 210, "DROP TABLE t; ^TABLE t")
	failsHere(t, 210, "DROP TABLE t^, u; DROP TABLE v")
}

// P11.1: one statement too many is told at its first token, whatever is behind it; what can't begin one is no statement.
func TestTooManyStmts(t *testing.T) {
	full := drops(api.MaxStmts)
	for _, sql := range []string{"DROP TABLE t", "DROP TABLE t;", "SELECT * FROM t", "CREATE", "CREATE CREATE", "INSERT ;", "UPDATE t", "delete", "DROP TABLE t; DROP TABLE t", "SELECT " + strings.Repeat("-\n", 17)} {
		fails(t, full+sql, 212, len(full))
		fails(t, full+"-- ;\n "+sql, 212, len(full)+6)
	}
	for _, sql := range []string{"x", ";", "TABLE t", "1", "'SELECT'", "(DROP TABLE t)", "FROM t", "*"} {
		fails(t, full+sql, 210, len(full))
	}
}

// P11.1: what is wrong ahead of one statement too many is told, also in the last one that may be.
func TestAheadOfTooMany(t *testing.T) {
	for ahead := range api.MaxStmts {
		for wrong, err := range map[string]api.Errno{"DROP TABLE ^; ": 210, "DROP TABLE t ^u; ": 210, "SELECT ^;": 210, "DELETE FROM t WHERE " + strings.Repeat("- ", 16) + "^- 1; ": 211} {
			failsHere(t, err, drops(ahead)+wrong+drops(9-ahead))
		}
	}
	fails(t, drops(7)+"DROP TABLE t DROP TABLE t;"+drops(1), 210, len(drops(7))+13)
}

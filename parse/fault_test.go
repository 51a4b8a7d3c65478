package parse_test

import (
	"strings"
	"testing"

	"tallyhouse/api"
	"tallyhouse/lex"
	"tallyhouse/parse"
)

// lexWords are the words that are kept.
func lexWords() []string {
	return lex.Keys()
}

// some is a text of each kind of statement, with each part that it may have, and some parts twice.
var some = []string{
	"CREATE TABLE t (a INT PRIMARY KEY, b TEXT NOT NULL, c BOOL)",
	"DROP TABLE t;",
	"INSERT INTO t VALUES (1 + 2, 'x', NOT NULL IS NULL)",
	"UPDATE t SET a = - a, b = 'y' WHERE a * 2 >= 7 OR b IS NOT NULL",
	"DELETE FROM t WHERE NOT (a = 1 AND TRUE)",
	"SELECT a, COUNT(*), SUM(t.a % 3) FROM t INNER JOIN u ON t.a = u.a WHERE FALSE GROUP BY t.b ORDER BY u.c DESC LIMIT 10",
	"SELECT * FROM t ORDER BY a ASC; DELETE FROM t;",
}

// others are tokens of each kind, all words and signs that there are among them.
func others() []string {
	return append(lex.Keys(), "<=", ">=", "<>", "(", ")", ",", ";", "=", "<", ">", "+", "-", "*", "/", "%", ".", "n", "7", "'q'")
}

// pieces are a text's tokens, each as it stands there.
func pieces(t *testing.T, sql string) []string {
	t.Helper()
	toks, spot := lex.Lex(sql)
	if spot.Err != api.OK {
		t.Fatalf("%q: %d at %d", sql, spot.Err, spot.At)
	}
	var out []string
	for _, tok := range toks {
		out = append(out, sql[tok.At:tok.To])
	}
	return out
}

// like fails the test where a text is not wrong where the model says, or is wrong where that does not; it tells which error there is.
func like(t *testing.T, sql string) api.Errno {
	t.Helper()
	got, spot := parse.Parse(sql)
	if want := modelSpot(sql); spot != want {
		t.Fatalf("%q: %d at %d; not %d at %d", sql, spot.Err, spot.At, want.Err, want.At)
	}
	if (spot.Err == api.OK) != (len(got) > 0) {
		t.Fatalf("%q: %s", sql, saidAll(got, spot))
	}
	return spot.Err
}

// with is these with others in the place of some of them, as a text.
func with(all []string, at, gone int, others ...string) string {
	out := append(append(append([]string{}, all[:at]...), others...), all[at+gone:]...)
	return strings.Join(out, " ")
}

// P11.1: each token of each statement left out, doubled, or another one in its place, or ahead of it.
func TestTokensSpoilt(t *testing.T) {
	counts := map[api.Errno]int{}
	for _, sql := range some {
		all := pieces(t, sql)
		counts[like(t, sql)]++
		for at := range all {
			counts[like(t, with(all, at, 1))]++
			counts[like(t, with(all, at, 1, all[at], all[at]))]++
			for _, other := range others() {
				counts[like(t, with(all, at, 1, other))]++
				counts[like(t, with(all, at, 0, other))]++
			}
		}
	}
	if counts[api.OK] < 400 || counts[210] < 5000 {
		t.Errorf("%v", counts)
	}
}

// P11.1: a text that ends behind any of its tokens is whole there, or wrong at its end: at its length, whatever blanks and remarks end it.
func TestEndsTooEarly(t *testing.T) {
	for _, sql := range some {
		all := pieces(t, sql)
		for size := range all {
			for _, end := range []string{"", " ", "\n\t", " -- why", " --", "\n-- a\n"} {
				short := strings.Join(all[:size], " ") + end
				_, spot := parse.Parse(short)
				if want := (api.Spot{Err: 210, At: len(short)}); spot != want && spot != (api.Spot{}) {
					t.Errorf("%q: %d at %d", short, spot.Err, spot.At)
				}
				like(t, short)
			}
		}
	}
	for _, short := range []string{"SELECT", "SELECT a", "SELECT a,", "SELECT a FROM", "SELECT a FROM t WHERE", "DELETE FROM t WHERE a IS", "DELETE FROM t WHERE a IS NOT", "DELETE FROM t WHERE a +", "DELETE FROM t WHERE (a", "DELETE FROM t WHERE NOT", "DELETE FROM t WHERE -", "DELETE FROM t WHERE (", "DELETE FROM t WHERE a.", "CREATE TABLE t (a INT NOT"} {
		fails(t, short, 210, len(short))
		fails(t, short+" \n", 210, len(short)+2)
		fails(t, short+" -- FROM t", 210, len(short)+10)
	}
}

// P11.1: of a text without any token the end is told, of one of ; alone that.
func TestNoTokens(t *testing.T) {
	for _, blank := range []string{"", " ", "\n\n\n", "-- SELECT * FROM t", "--\n", strings.Repeat(" ", 1024)} {
		fails(t, blank, 210, len(blank))
		if len(blank) < 1024 {
			fails(t, blank+"\n;", 210, len(blank)+1)
			fails(t, blank+"\n; DROP TABLE t", 210, len(blank)+1)
		}
	}
	fails(t, ";;", 210, 0)
	fails(t, ";", 210, 0)
}

// P11.1: what lex finds wrong is told, at its place, also where something of this layer is wrong ahead of it, or at it.
func TestLexFirst(t *testing.T) {
	for _, sql := range []string{"DROP TABLE t ", "", "DROP ", "; ", "x ", "SELECT FROM ", "DELETE FROM t WHERE " + strings.Repeat("(", 17) + " ", strings.Repeat("DROP TABLE t;", 9) + " "} {
		fails(t, sql+"#", 200, len(sql))
		fails(t, sql+"'a", 200, len(sql))
		fails(t, sql+"12b", 201, len(sql))
		fails(t, sql+"9223372036854775808 #", 201, len(sql))
		fails(t, sql+strings.Repeat("n", 25), 200, len(sql))
		fails(t, sql+strings.Repeat(" ", 1025-len(sql)), api.ErrLong, 0)
		if toks, _ := lex.Lex(sql); len(sql)+600 < 1024 {
			fails(t, sql+strings.Repeat("+ ", 301-len(toks)), api.ErrLong, len(sql)+2*(300-len(toks)))
		}
	}
	fails(t, "#", 200, 0)
	fails(t, "DROP TABLE t\x00", 200, 12)
}

// P11.1: blanks and remarks may be wherever, and the case of kept words is nothing.
func TestBlanks(t *testing.T) {
	want := api.Stmt{Kind: 6, Table: "t", Items: []api.Item{{Kind: 1, Expr: of("-", col("t.a"), num(1)).expr()}, {Kind: 2}}, Limit: 3}
	for _, sql := range []string{
		"SELECT t.a-1,COUNT(*)FROM t LIMIT 3;",
		"select\tt . a - 1 , count ( * ) from t limit 3",
		"\r\nSeLeCt--x\nt--y\n.--z\na - --;\n1,COUNT--'\n(*) FROM t\n\n\nLIMIT 3 -- ; #",
		"--\n--\nSELECT t.a\n-\n1, COUNT(*) FROM t LIMIT\n3--",
	} {
		parses(t, sql, want)
	}
	means(t, "- -a", of("minus", of("minus", col("a"))))
	means(t, "a- -a", of("-", col("a"), of("minus", col("a"))))
	failsHere(t, 210, "DELETE FROM t WHERE a --a\n ^b")
	failsHere(t, 210, "INSERT INTO t VALUES (1 --a)^")
}

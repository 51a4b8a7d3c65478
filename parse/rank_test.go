package parse_test

import (
	"slices"
	"strings"
	"testing"

	"tallyhouse/api"
)

// ranked are the ops between two, from the loosest rank on.
var ranked = [][]string{{"OR"}, {"AND"}, {"=", "<>", "<", "<=", ">", ">="}, {"+", "-"}, {"*", "/", "%"}}

// rankOf is an op's place among the ranks; 2 is the one of tests.
func rankOf(op string) int {
	return slices.IndexFunc(ranked, func(ops []string) bool { return slices.Contains(ops, op) })
}

// allOps are those of all ranks.
func allOps() []string {
	return slices.Concat(ranked...)
}

// P11.1: each op alone.
func TestOps(t *testing.T) {
	for _, op := range allOps() {
		means(t, "a "+op+" 7", of(op, col("a"), num(7)))
		means(t, "'x'"+strings.Repeat(" ", 1+len(op))+op+"\nt.b", of(op, text("x"), col("t.b")))
		if op != "-" {
			failsHere(t, 210, "DELETE FROM t WHERE a "+op+" ^"+op+" b")
			failsHere(t, 210, "DELETE FROM t WHERE ^"+op+" a")
		}
		failsHere(t, 210, "DELETE FROM t WHERE a "+op+"^")
		failsHere(t, 210, "DELETE FROM t WHERE a "+op+" b ^c")
		failsHere(t, 210, "DELETE FROM t WHERE (a "+op+"^)")
	}
}

// P11.1: each op beside each other one: the tighter one first, those of one rank from left to right, of tests at most one.
func TestOpsBeside(t *testing.T) {
	a, b, c := col("a"), num(2), col("c")
	for _, one := range allOps() {
		for _, two := range allOps() {
			sql := "a " + one + " 2 " + two + " c"
			switch first, second := rankOf(one), rankOf(two); {
			case first == 2 && second == 2:
				failsHere(t, 210, "DELETE FROM t WHERE a "+one+" 2 ^"+two+" c")
			case first >= second:
				means(t, sql, of(two, of(one, a, b), c))
			default:
				means(t, sql, of(one, a, of(two, b, c)))
			}
			means(t, "(a "+one+" 2) "+two+" c", of(two, of(one, a, b), c))
			means(t, "a "+one+" (2 "+two+" c)", of(one, a, of(two, b, c)))
		}
	}
}

// P11.1: a test between other ops, and each three of a rank from left to right.
func TestThreeOps(t *testing.T) {
	a, b, c, d := col("a"), col("b"), col("c"), col("d")
	means(t, "a - b - c - d", of("-", of("-", of("-", a, b), c), d))
	means(t, "a / b * c % d", of("%", of("*", of("/", a, b), c), d))
	means(t, "a OR b OR c OR d", of("OR", of("OR", of("OR", a, b), c), d))
	means(t, "a AND b AND c AND d", of("AND", of("AND", of("AND", a, b), c), d))
	means(t, "a OR b AND c OR d", of("OR", of("OR", a, of("AND", b, c)), d))
	means(t, "a + b * c - d", of("-", of("+", a, of("*", b, c)), d))
	means(t, "a * b + c * d", of("+", of("*", a, b), of("*", c, d)))
	means(t, "a + b < c - d", of("<", of("+", a, b), of("-", c, d)))
	means(t, "a = b AND c = d", of("AND", of("=", a, b), of("=", c, d)))
	means(t, "a = b OR c IS NULL AND d", of("OR", of("=", a, b), of("AND", of("IS NULL", c), d)))
	means(t, "a + (b + (c + d))", of("+", a, of("+", b, of("+", c, d))))
	means(t, "a = b + 1 OR NOT a * 2 >= - c % d AND TRUE", of("OR", of("=", a, of("+", b, num(1))), of("AND", of("NOT", of(">=", of("*", a, num(2)), of("%", of("minus", c), d))), truth(1))))
}

// P11.1: NOT before one: looser than a test, tighter than AND and OR; it stands where a test might not.
func TestNot(t *testing.T) {
	a, b := col("a"), col("b")
	for _, op := range allOps() {
		if rankOf(op) >= 2 {
			means(t, "NOT a "+op+" b", of("NOT", of(op, a, b)))
			failsHere(t, 210, "DELETE FROM t WHERE a "+op+" ^NOT b")
		} else {
			means(t, "NOT a "+op+" b", of(op, of("NOT", a), b))
			means(t, "a "+op+" NOT b", of(op, a, of("NOT", b)))
		}
		means(t, "NOT (a "+op+" b)", of("NOT", of(op, a, b)))
		means(t, "(NOT a) "+op+" b", of(op, of("NOT", a), b))
		means(t, "a "+op+" (NOT b)", of(op, a, of("NOT", b)))
	}
	means(t, "NOT NOT a", of("NOT", of("NOT", a)))
	means(t, "NOT - a", of("NOT", of("minus", a)))
	means(t, "NOT a IS NULL", of("NOT", of("IS NULL", a)))
	means(t, "NOT a IS NOT NULL AND NOT b", of("AND", of("NOT", of("IS NOT NULL", a)), of("NOT", b)))
	failsHere(t, 210, "DELETE FROM t WHERE - ^NOT a")
	failsHere(t, 210, "DELETE FROM t WHERE a ^NOT b")
	failsHere(t, 210, "DELETE FROM t WHERE a ^NOT NULL")
	failsHere(t, 210, "DELETE FROM t WHERE NOT^")
	failsHere(t, 210, "DELETE FROM t WHERE NOT ^AND a")
	failsHere(t, 210, "DELETE FROM t WHERE NOT a = b ^= b")
}

// P11.1: - before one: tighter than all ops.
func TestMinus(t *testing.T) {
	a, b := col("a"), col("b")
	for _, op := range allOps() {
		means(t, "- a "+op+" b", of(op, of("minus", a), b))
		means(t, "a "+op+" - b", of(op, a, of("minus", b)))
		means(t, "a "+op+" - - b", of(op, a, of("minus", of("minus", b))))
		means(t, "- (a "+op+" b)", of("minus", of(op, a, b)))
	}
	means(t, "- a IS NULL", of("IS NULL", of("minus", a)))
	means(t, "- 9223372036854775807", of("minus", num(1<<63-1)))
	means(t, "-'x'", of("minus", text("x")))
	means(t, "-NULL", of("minus", null()))
	means(t, "- t.a", of("minus", col("t.a")))
	means(t, "-(-a)", of("minus", of("minus", a)))
	failsHere(t, 210, "DELETE FROM t WHERE -^")
	failsHere(t, 210, "DELETE FROM t WHERE - ^+ a")
	failsHere(t, 210, "DELETE FROM t WHERE -^;")
}

// P11.1: IS NULL and IS NOT NULL behind one: behind a sum, behind brackets, and behind no test.
func TestIsNull(t *testing.T) {
	a, b := col("a"), col("b")
	for _, is := range []string{"IS NULL", "IS NOT NULL"} {
		means(t, "a "+is, of(is, a))
		means(t, "NULL "+is, of(is, null()))
		means(t, "(a) "+is, of(is, a))
		means(t, "(a "+is+")", of(is, a))
		means(t, "a + b "+is, of(is, of("+", a, b)))
		means(t, "a * b "+is, of(is, of("*", a, b)))
		means(t, "a AND b "+is, of("AND", a, of(is, b)))
		means(t, "a OR b "+is, of("OR", a, of(is, b)))
		for _, inner := range []string{"=", "<", "OR", "AND", "+"} {
			means(t, "(a "+inner+" b) "+is, of(is, of(inner, a, b)))
		}
		for _, two := range []string{"IS NULL", "IS NOT NULL"} {
			means(t, "(a "+is+") "+two, of(two, of(is, a)))
			failsHere(t, 210, "DELETE FROM t WHERE a "+is+" ^"+two)
		}
		for _, op := range allOps() {
			switch {
			case rankOf(op) < 2:
				means(t, "a "+is+" "+op+" b", of(op, of(is, a), b))
			default:
				failsHere(t, 210, "DELETE FROM t WHERE a "+is+" ^"+op+" b")
			}
			if rankOf(op) == 2 {
				failsHere(t, 210, "DELETE FROM t WHERE a "+op+" b ^"+is)
				means(t, "(a "+is+") "+op+" b", of(op, of(is, a), b))
				means(t, "a "+op+" (b "+is+")", of(op, a, of(is, b)))
			}
		}
	}
	for _, text := range []string{"a IS^", "a IS ^a", "a IS ^TRUE", "a IS NOT^", "a IS NOT ^TRUE", "a IS NOT ^NOT NULL", "a ^NULL", "^IS NULL", "a IS ^(NULL)", "a IS ^IS NULL"} {
		failsHere(t, 210, "DELETE FROM t WHERE "+text)
	}
}

// P11.1: what stands alone: a number, a text, TRUE, FALSE, NULL, a column with a table and without, and brackets, which have no row.
func TestSingles(t *testing.T) {
	for sql, tree := range map[string]*parted{
		"0": num(0), "007": num(7), "9223372036854775807": num(1<<63 - 1), "''": text(""), "'it''s'": text("it's"), "true": truth(1), "FALSE": truth(0), "Null": null(), "a": col("a"), "T . _1": col("T._1"),
	} {
		means(t, sql, tree)
		means(t, "("+sql+")", tree)
		means(t, "(((("+sql+"))))", tree)
		means(t, "("+sql+") = (("+sql+"))", of("=", tree, tree))
	}
	fails(t, "DELETE FROM t WHERE 9223372036854775808", 201, 20)
	for _, text := range []string{"^", "(^)", "(a^", "(^", "a^)", "(a ^b)", "(a^, b)", "^.a", "a.^", "a.^1", "a.^'b'", "a.^select", "a.b^.c", "1^.a", "'a'^.b", "(a)^.b", "^FROM", "^,", "^*", "1 ^1", "a ^'x'", "TRUE ^FALSE", "a^(b)"} {
		failsHere(t, 210, "DELETE FROM t WHERE "+text)
	}
}

// P11.1: of a value all fields are zero that do not count; so are those of a row.
func TestRowsAreSparse(t *testing.T) {
	e := one(t, "DELETE FROM t WHERE NOT - t.a * 2 = 'x' OR TRUE AND NULL IS NULL OR FALSE IS NOT NULL").Where
	want := []api.Node{
		{Kind: 2, Table: "t", Name: "a"}, {Kind: 4, A: 0}, {Kind: 1, Value: api.Value{Kind: 3, Num: 2}}, {Kind: 8, Op: 3, A: 1, B: 2}, {Kind: 1, Value: api.Value{Kind: 4, Text: "x"}}, {Kind: 7, Op: 1, A: 3, B: 4}, {Kind: 3, A: 5},
		{Kind: 1, Value: api.Value{Kind: 2, Num: 1}}, {Kind: 1, Value: api.Value{Kind: 1}}, {Kind: 9, A: 8}, {Kind: 5, A: 7, B: 9}, {Kind: 6, A: 6, B: 10},
		{Kind: 1, Value: api.Value{Kind: 2}}, {Kind: 10, A: 12}, {Kind: 6, A: 11, B: 13},
	}
	if !slices.Equal(e.Nodes, want) {
		t.Errorf("%s", saidExpr(e))
	}
}

package parse_test

import (
	"strings"
	"testing"

	"tallyhouse/api"
)

// deep is a tree within so many of these words.
func deep(tree *parted, words ...string) *parted {
	for i := range words {
		if word := words[len(words)-1-i]; word != "(" {
			tree = of(map[string]string{"-": "minus", "NOT": "NOT"}[word], tree)
		}
	}
	return tree
}

// opened is a text of these words, of one behind them, and of the brackets that end it.
func opened(inner string, words ...string) string {
	all := strings.Join(words, " ")
	return all + " " + inner + strings.Repeat(")", strings.Count(all, "("))
}

// repeated are so many of these words, in turn.
func repeated(many int, words ...string) []string {
	var out []string
	for i := range many {
		out = append(out, words[i%len(words)])
	}
	return out
}

// mixes are ways to have so many open.
func mixes(many int) [][]string {
	return [][]string{
		repeated(many, "("), repeated(many, "NOT"), repeated(many, "-"), repeated(many, "(", "NOT"), repeated(many, "NOT", "("), repeated(many, "(", "-"), repeated(many, "-", "("), repeated(many, "(", "NOT", "-"), repeated(many, "NOT", "-", "("),
		append(repeated(many-3, "NOT"), "-", "-", "("), append(repeated(3, "NOT"), repeated(many-3, "-")...), append(repeated(many-1, "("), "-"), append(repeated(many-1, "("), "NOT"), append(repeated(many-1, "-"), "("), append(repeated(many-1, "NOT"), "("),
	}
}

// P11.1: MaxNest may be open at once, whatever they are; one more is ErrNest where it stands.
func TestNest(t *testing.T) {
	for _, words := range mixes(api.MaxNest) {
		means(t, opened("a", words...), deep(col("a"), words...))
		means(t, opened("a + 1", words...)+" OR b", of("OR", deepSum(words), col("b")))
		for _, word := range []string{"(", "NOT", "-"} {
			if word == "NOT" && words[len(words)-1] == "-" {
				continue
			}
			ahead := "DELETE FROM t WHERE " + strings.Join(words, " ") + " "
			for _, behind := range []string{" a", "", " )", " ( - NOT", " FROM", " a" + strings.Repeat(")", 17), ";;"} {
				fails(t, ahead+word+behind, 211, len(ahead))
			}
		}
	}
}

// deepSum is a + 1 within so many of these words; of the last ones the signs - take a alone.
func deepSum(words []string) *parted {
	tight := 0
	for tight < len(words) && words[len(words)-1-tight] == "-" {
		tight++
	}
	most := len(words) - tight
	tree := of("+", deep(col("a"), words[most:]...), num(1))
	return deep(tree, words[:most]...)
}

// P11.1: what was open and is over counts no more: behind brackets, behind what NOT and - are of, in the next item, statement, part.
func TestNestOver(t *testing.T) {
	for _, words := range mixes(api.MaxNest) {
		sql, tree := opened("a", words...), deep(col("a"), words...)
		for _, op := range allOps() {
			if rankOf(op) < 2 {
				where(t, sql+" "+op+" "+sql+" "+op+" "+sql, of(op, of(op, tree, tree), tree))
			} else if words[0] != "NOT" {
				where(t, sql+" "+op+" "+sql, of(op, tree, tree))
			}
		}
		full := "SELECT " + sql + ", SUM(" + sql + "), " + sql + " FROM t INNER JOIN u ON " + sql + " WHERE " + sql
		if like(t, full) != api.OK {
			t.Errorf("%q is wrong", full)
		}
		ahead := full + " OR " + strings.Join(words, " ") + " "
		fails(t, ahead+"(a)", 211, len(ahead))
		sqls := "DELETE FROM t WHERE " + sql + "; UPDATE t SET a = " + sql + ", b = " + sql + "; INSERT INTO t VALUES (" + sql + "); SELECT SUM(" + sql + ") FROM t; "
		if like(t, sqls) != api.OK {
			t.Errorf("%q is wrong", sqls)
		}
		failsHere(t, 211, sqls+"INSERT INTO t VALUES ("+strings.Join(words, " ")+" ^(")
	}
	for _, sql := range []string{
		strings.Repeat("(a) + ", 40) + "a", strings.Repeat("- a + ", 40) + "a", strings.Repeat("NOT a AND ", 40) + "a", strings.Repeat("(NOT - a) OR ", 20) + "a", strings.Repeat("- (a) * ", 30) + "a", strings.Repeat("NOT (a) = - 1 OR ", 20) + "NOT - (1) IS NOT NULL",
		strings.Repeat("(", 15) + strings.Repeat("(a) + ", 20) + "- a - - a" + strings.Repeat(")", 15), strings.Repeat("NOT ", 15) + strings.Repeat("- a + ", 20) + "(a)", strings.Repeat("NOT ", 15) + "- a = - b AND " + strings.Repeat("NOT ", 15) + "(a) = (b)",
	} {
		if like(t, "DELETE FROM t WHERE "+sql) != api.OK {
			t.Errorf("%q is wrong", sql)
		}
	}
}

// P11.1: the brackets of CREATE, VALUES, COUNT and SUM, the word NOT of NULL, and the sign - between two are not open.
func TestNotOpen(t *testing.T) {
	deepest := opened("a", repeated(16, "(")...)
	for _, sql := range []string{
		"INSERT INTO t VALUES (" + deepest + ")", "SELECT SUM(" + deepest + "), COUNT(*) FROM t", "DELETE FROM t WHERE " + opened("a IS NOT NULL", repeated(16, "NOT")...), "DELETE FROM t WHERE " + opened("a - a - a", repeated(16, "(")...),
		"CREATE TABLE t (a INT NOT NULL" + strings.Repeat(", a INT NOT NULL", 20) + ")", "DELETE FROM t WHERE a" + strings.Repeat(" - a", 40), "DELETE FROM t WHERE a IS NOT NULL" + strings.Repeat(" AND a IS NOT NULL", 20),
	} {
		if like(t, sql) != api.OK {
			t.Errorf("%q is wrong", sql)
		}
	}
}

// P11.1: ErrParse ahead of ErrNest, and the other way about; whichever token stands first.
func TestNestOrParse(t *testing.T) {
	full := "DELETE FROM t WHERE " + strings.Repeat("( ", 16)
	failsHere(t, 210, full+"^)")
	failsHere(t, 210, full+"^* (a")
	failsHere(t, 210, full+"a ^(a")
	failsHere(t, 210, full+"a ^NOT")
	failsHere(t, 210, full+"a + ^NOT a")
	failsHere(t, 211, full+"^- * a")
	failsHere(t, 211, full+"a + ^(")
	failsHere(t, 211, full+"a AND ^NOT *")
	failsHere(t, 211, full+"a - ^- a FROM FROM")
	failsHere(t, 210, "DELETE ^t WHERE "+strings.Repeat("(", 17))
	failsHere(t, 210, "SELECT "+strings.Repeat("- ", 16)+"^NOT a FROM t")
	failsHere(t, 211, "SELECT "+strings.Repeat("- ", 16)+"^- NOT a FROM t")
	failsHere(t, 210, "SELECT a ^WHERE "+strings.Repeat("- ", 17))
	failsHere(t, 211, "SELECT "+strings.Repeat("NOT ", 16)+"^NOT FROM")
	failsHere(t, 210, "SELECT "+strings.Repeat("NOT ", 16)+"^FROM NOT")
	failsHere(t, 210, "SELECT "+strings.Repeat("NOT ", 16)+"a = ^NOT a")
	failsHere(t, 210, "SELECT "+strings.Repeat("NOT ", 16)+"^")
}

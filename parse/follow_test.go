package parse_test

import (
	"slices"
	"strings"
	"testing"

	"tallyhouse/api"
	"tallyhouse/lex"
	"tallyhouse/parse"
)

// printed is a statement as the chapter's words say it, of trees and not of rows.
func printed(e api.Expr, at int) string {
	n := e.Nodes[at]
	for word, node := range wordNodes {
		if node.Kind != n.Kind || node.Op != n.Op {
			continue
		}
		switch {
		case word == "minus":
			return "( - " + printed(e, n.A) + " )"
		case word == "NOT":
			return "( NOT " + printed(e, n.A) + " )"
		case strings.HasPrefix(word, "IS"):
			return "( " + printed(e, n.A) + " " + word + " )"
		}
		return "( " + printed(e, n.A) + " " + word + " " + printed(e, n.B) + " )"
	}
	if n.Kind == 2 && n.Table != "" {
		return n.Table + " . " + n.Name
	}
	if n.Kind == 2 {
		return n.Name
	}
	switch v := n.Value; v.Kind {
	case 2:
		return []string{"FALSE", "TRUE"}[v.Num]
	case 3:
		text, _ := lex.Print([]api.Tok{{Kind: api.TokInt, Num: v.Num}})
		return text
	case 4:
		return "'" + strings.ReplaceAll(v.Text, "'", "''") + "'"
	}
	return "NULL"
}

// P11.2: expressions made by chance are printed as the words say.
func TestPrintByChance(t *testing.T) {
	c := chance(11)
	for range 20000 {
		m := made{chance: &c}
		e := m.expr()
		want := "DELETE FROM t WHERE " + printed(e, len(e.Nodes)-1)
		if got := parse.Print(api.Stmt{Kind: 5, Table: "t", Where: e, Limit: -1}); got != want {
			t.Fatalf("%q; not %q", got, want)
		}
	}
}

// deepest is how many are open at once in a text's tokens.
func deepest(sql string) int {
	toks, _ := lex.Lex(sql)
	var symbols []string
	for _, tok := range toks {
		symbols = append(symbols, symbol(tok))
	}
	return slices.Max(opens(symbols))
}

// P11.3: Parse of Print of a statement that was parsed is the same statement; where its brackets or its length are more than a text may have, that is told.
func TestParseOfPrint(t *testing.T) {
	c := chance(12)
	same, deep, long := 0, 0, 0
	for range 12000 {
		m := made{chance: &c}
		m.stmts(2)
		sql := c.loosely(m.tokens)
		all, spot := parse.Parse(sql)
		if spot.Err != api.OK {
			continue
		}
		for _, s := range all {
			printed := parse.Print(s)
			back, spot := parse.Parse(printed)
			_, fault := lex.Lex(printed)
			switch {
			case fault.Err != api.OK:
				long++
			case deepest(printed) > api.MaxNest:
				deep++
				if spot.Err != 211 {
					t.Fatalf("%q: %d", printed, spot.Err)
				}
			case spot != (api.Spot{}) || len(back) != 1 || !parse.Same(s, back[0]) || said(s) != said(back[0]) || parse.Print(back[0]) != printed:
				t.Fatalf("%q: %q: %s", sql, printed, saidAll(back, spot))
			default:
				same++
			}
		}
	}
	if same < 12000 || deep > 100 || long > 1000 {
		t.Errorf("%d are the same, %d too deep, %d too long", same, deep, long)
	}
}

// P11.3: statements that were parsed, one behind the other, printed with ; between them.
func TestParseOfPrints(t *testing.T) {
	c := chance(13)
	right := 0
	for range 4000 {
		m := made{chance: &c}
		want := m.stmts(4)
		var texts []string
		for _, s := range want {
			texts = append(texts, parse.Print(s))
		}
		sql := strings.Join(texts, ";")
		if !within(sql) || deepest(sql) > api.MaxNest {
			continue
		}
		for _, end := range []string{"", ";", " ;--"} {
			if got, spot := parse.Parse(sql + end); saidAll(got, spot) != saidAll(want, api.Spot{}) && within(sql+end) {
				t.Fatalf("%q: %s", sql+end, saidAll(got, spot))
			}
		}
		right++
	}
	if right < 1500 {
		t.Error(right)
	}
}

// P11.3: blanks and remarks change nothing: the same tokens have the same statements, or are wrong at the same one.
func TestBlanksByChance(t *testing.T) {
	c := chance(14)
	wrong := 0
	for range 12000 {
		m := made{chance: &c}
		m.stmts(2)
		tokens := m.tokens
		if c.oneIn(2) {
			tokens = c.spoilt(tokens)
		}
		plain, loose := strings.Join(tokens, " "), c.loosely(tokens)
		one, _ := lex.Lex(plain)
		two, _ := lex.Lex(loose)
		if !within(plain) || !within(loose) || !lex.Same(one, two) {
			continue
		}
		all, spot := parse.Parse(plain)
		again, at := parse.Parse(loose)
		if which(one, spot.At) != which(two, at.At) && spot.Err != api.OK {
			t.Fatalf("%q: %d at %d; %q: %d at %d", plain, spot.Err, spot.At, loose, at.Err, at.At)
		}
		spot.At, at.At = 0, 0
		if saidAll(all, spot) != saidAll(again, at) {
			t.Fatalf("%q: %s; %q: %s", plain, saidAll(all, spot), loose, saidAll(again, at))
		}
		if spot.Err != api.OK {
			wrong++
		}
	}
	if wrong < 3000 {
		t.Error(wrong)
	}
}

// which is the number of the token that begins at a place; at the end, how many there are.
func which(toks []api.Tok, at int) int {
	for i, tok := range toks {
		if tok.At == at {
			return i
		}
	}
	return len(toks)
}

// P11.3: a text that is wrong at a token is wrong there, whatever tokens stand behind that one, or none.
func TestBehindFaults(t *testing.T) {
	c := chance(15)
	all := others()
	wrong := map[api.Errno]int{}
	for i := range 9000 {
		m := made{chance: &c}
		m.stmts(2)
		tokens := c.spoilt(m.tokens)
		switch {
		case i%10 == 0:
			tokens = append(strings.Fields(drops(8)), tokens...)
		case i%10 == 1:
			tokens = append(append([]string{"SELECT"}, repeated(12+c.pick(9), c.among("NOT", "("), "-", "(")...), tokens...)
		}
		sql := strings.Join(tokens, " ")
		toks, _ := lex.Lex(sql)
		_, spot := parse.Parse(sql)
		at := which(toks, spot.At)
		if spot.Err < 210 || at == len(toks) {
			continue
		}
		wrong[spot.Err]++
		for range 4 {
			more := sql[:toks[at].To]
			for range c.pick(12) {
				more += c.among(" ", "\n", " --\n") + c.among(all...)
			}
			if !within(more) {
				continue
			}
			if got, other := parse.Parse(more); len(got) > 0 || other != spot {
				t.Fatalf("%q: %d at %d; %q: %d at %d", sql, spot.Err, spot.At, more, other.Err, other.At)
			}
		}
	}
	for _, err := range []api.Errno{210, 211, 212} {
		if wrong[err] < 200 {
			t.Errorf("%v", wrong)
		}
	}
}

// P11.3: what stands ahead of the place where a text is wrong could go on: cut there, it is whole, or ends too early.
func TestAheadOfFaults(t *testing.T) {
	c := chance(16)
	for range 9000 {
		m := made{chance: &c}
		m.stmts(2)
		sql := strings.Join(c.spoilt(m.tokens), " ")
		_, spot := parse.Parse(sql)
		if spot.Err != 210 {
			continue
		}
		short := sql[:spot.At]
		if _, at := parse.Parse(short); at != (api.Spot{}) && at != (api.Spot{Err: 210, At: len(short)}) {
			t.Fatalf("%q: %d at %d; %q: %d at %d", sql, spot.Err, spot.At, short, at.Err, at.At)
		}
	}
}

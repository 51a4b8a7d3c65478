package parse_test

import (
	"slices"
	"strings"

	"tallyhouse/api"
	"tallyhouse/lex"
)

// grammar is what the chapter's tables say: a word of small letters that has a line is what stands there, else a kind of tokens; alternatives stand behind |.
var grammar = readGrammar(`
text = stmts | stmts ;
stmts = stmt | stmts ; stmt
stmt = CREATE TABLE name ( columns ) | DROP TABLE name | INSERT INTO name VALUES ( exprs ) | UPDATE name SET sets where | DELETE FROM name where | SELECT items FROM name join where group order limit
columns = column | columns , column
column = name type key
type = INT | BOOL | TEXT
key = PRIMARY KEY | NOT NULL |
exprs = expr | exprs , expr
sets = set | sets , set
set = name = expr
items = * | some
some = item | some , item
item = expr | COUNT ( * ) | SUM ( expr )
join = INNER JOIN name ON expr |
where = WHERE expr |
group = GROUP BY ref |
order = ORDER BY ref way |
way = ASC | DESC |
limit = LIMIT int |
ref = name | name . name
expr = and | expr OR and
and = not | and AND not
not = test | NOT not
test = sum | sum = sum | sum <> sum | sum < sum | sum <= sum | sum > sum | sum >= sum | sum IS NULL | sum IS NOT NULL
sum = product | sum + product | sum - product
product = minus | product * minus | product / minus | product % minus
minus = single | - minus
single = int | quoted | TRUE | FALSE | NULL | ref | ( expr )
`)

// rules are what each word of the grammar may be.
type rules map[string][][]string

func readGrammar(lines string) rules {
	out := rules{}
	for _, line := range strings.Split(strings.TrimSpace(lines), "\n") {
		name, what, _ := strings.Cut(line, " = ")
		for _, one := range strings.Split(what, "|") {
			out[name] = append(out[name], strings.Fields(one))
		}
	}
	return out
}

// item is a rule of which so much has been met, from a token on.
type item struct {
	name       string
	rule, done int
	from       int
}

// wants is what an item goes on with; empty, if it is whole.
func (i item) wants() string {
	rule := grammar[i.name][i.rule]
	if i.done == len(rule) {
		return ""
	}
	return rule[i.done]
}

func (i item) further() item {
	i.done++
	return i
}

// state is all items that may be at a place.
type state struct {
	list []item
	has  map[item]bool
}

func (s *state) put(i item) {
	if !s.has[i] {
		s.has[i] = true
		s.list = append(s.list, i)
	}
}

// fill puts into the last state all that follows from what is in it.
func fill(all []*state) {
	last := len(all) - 1
	s := all[last]
	for at := 0; at < len(s.list); at++ {
		i := s.list[at]
		want := i.wants()
		switch {
		case want == "":
			for _, up := range all[i.from].list {
				if up.wants() == i.name {
					s.put(up.further())
				}
			}
		case grammar[want] != nil:
			for rule, parts := range grammar[want] {
				s.put(item{want, rule, 0, last})
				if len(parts) == 0 {
					s.put(i.further())
				}
			}
		}
	}
}

// symbol is what a token is to the grammar.
func symbol(tok api.Tok) string {
	switch tok.Kind {
	case api.TokName:
		return "name"
	case api.TokInt:
		return "int"
	case api.TokText:
		return "quoted"
	}
	return tok.Text
}

// fits is how many of these a text of the grammar may begin with, and whether it may be over there.
func fits(symbols []string) (int, bool) {
	first := &state{has: map[item]bool{}}
	for rule := range grammar["text"] {
		first.put(item{"text", rule, 0, 0})
	}
	all := []*state{first}
	fill(all)
	for n, symbol := range symbols {
		next := &state{has: map[item]bool{}}
		for _, i := range all[n].list {
			if i.wants() == symbol {
				next.put(i.further())
			}
		}
		if len(next.list) == 0 {
			return n, false
		}
		all = append(all, next)
		fill(all)
	}
	for _, i := range all[len(symbols)].list {
		if i.name == "text" && i.wants() == "" {
			return len(symbols), true
		}
	}
	return len(symbols), false
}

// opens is, token by token, how many are open there, of symbols that a text begins with. It goes by the symbols that are beside one another alone: a sign behind what ends a part goes between two.
func opens(symbols []string) []int {
	var out []int
	var open []string
	close := func(which ...string) {
		for len(open) > 0 && slices.Contains(which, open[len(open)-1]) {
			open = open[:len(open)-1]
		}
	}
	behind := ""
	for _, symbol := range symbols {
		switch {
		case symbol == "(" && !slices.Contains([]string{"name", "VALUES", "COUNT", "SUM"}, behind):
			open = append(open, "(")
		case symbol == "-" && !slices.Contains([]string{"name", "int", "quoted", "TRUE", "FALSE", "NULL", ")"}, behind):
			open = append(open, "-")
		case symbol == "NOT" && !slices.Contains([]string{"IS", "INT", "BOOL", "TEXT"}, behind):
			open = append(open, "NOT")
		case symbol == ")":
			close("-", "NOT")
			if len(open) > 0 {
				open = open[:len(open)-1]
			}
			close("-")
		case slices.Contains([]string{"name", "int", "quoted", "TRUE", "FALSE", "NULL"}, symbol):
			close("-")
		case slices.Contains([]string{"AND", "OR", ",", ";", "FROM", "WHERE", "GROUP", "ORDER", "LIMIT"}, symbol):
			close("-", "NOT")
		}
		out = append(out, len(open))
		behind = symbol
	}
	return out
}

// modelSpot is where a text is wrong, and why.
func modelSpot(text string) api.Spot {
	toks, spot := lex.Lex(text)
	if spot.Err != api.OK {
		return spot
	}
	var symbols []string
	for _, tok := range toks {
		symbols = append(symbols, symbol(tok))
	}
	right, over := fits(symbols)
	stmts := 0
	for i, open := range opens(symbols[:right]) {
		if i == 0 || symbols[i-1] == ";" {
			stmts++
		}
		switch {
		case open > 16:
			return api.Spot{Err: 211, At: toks[i].At}
		case stmts > 8:
			return api.Spot{Err: 212, At: toks[i].At}
		}
	}
	switch {
	case right < len(toks):
		return api.Spot{Err: 210, At: toks[right].At}
	case !over:
		return api.Spot{Err: 210, At: len(text)}
	}
	return api.Spot{}
}

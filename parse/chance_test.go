package parse_test

import (
	"strconv"
	"strings"
	"testing"

	"tallyhouse/api"
	"tallyhouse/lex"
	"tallyhouse/parse"
)

// chance picks by a row that is always the same.
type chance uint64

// pick is a number below n.
func (c *chance) pick(n int) int {
	*c = *c*6364136223846793005 + 1442695040888963407
	return int(uint64(*c) >> 33 % uint64(n))
}

// oneIn is true one time in n.
func (c *chance) oneIn(n int) bool {
	return c.pick(n) == 0
}

// among is one of these.
func (c *chance) among(all ...string) string {
	return all[c.pick(len(all))]
}

// made is a text's tokens, as far as they are made.
type made struct {
	*chance
	tokens []string
}

// put puts tokens behind the others.
func (m *made) put(all ...string) {
	m.tokens = append(m.tokens, all...)
}

// name is a name, which is put, too.
func (m *made) name() string {
	name := m.among("a", "b", "t", "u", "_1", "Tab", "sums", "x9", "n"+strings.Repeat("m", m.pick(24)))
	m.put(name)
	return name
}

// ref is a column.
func (m *made) ref() api.Ref {
	name := m.name()
	if m.oneIn(2) {
		return api.Ref{Name: name}
	}
	m.put(".")
	return api.Ref{Table: name, Name: m.name()}
}

// tree is an expression whose rank is one of those from least on, at most so deep; its tokens are put as the ranks ask for, or with more brackets.
func (m *made) tree(least, deep int) *parted {
	rank := 7
	if deep > 0 && !m.oneIn(4) {
		rank = m.pick(8)
	}
	if rank < least || m.oneIn(10) && deep > 0 {
		m.put("(")
		tree := m.tree(0, deep-1)
		m.put(")")
		return tree
	}
	switch rank {
	case 0, 1:
		a := m.tree(rank, deep-1)
		return m.both(a, rank+1, deep, ranked[rank]...)
	case 2:
		m.put("NOT")
		return of("NOT", m.tree(2, deep-1))
	case 3:
		a := m.tree(4, deep-1)
		if m.oneIn(3) {
			is := m.among("IS NULL", "IS NOT NULL")
			m.put(strings.Fields(is)...)
			return of(is, a)
		}
		return m.both(a, 4, deep, ranked[2]...)
	case 4, 5:
		a := m.tree(rank, deep-1)
		return m.both(a, rank+1, deep, ranked[rank-1]...)
	case 6:
		m.put("-")
		return of("minus", m.tree(6, deep-1))
	}
	return m.single()
}

// both is a, an op, and what stands behind it.
func (m *made) both(a *parted, least, deep int, ops ...string) *parted {
	op := m.among(ops...)
	m.put(op)
	return of(op, a, m.tree(least, deep-1))
}

// single is what stands alone.
func (m *made) single() *parted {
	switch m.pick(7) {
	case 0:
		n := int64(m.pick(1 << 20))
		m.put(strconv.Itoa(int(n)))
		return num(n)
	case 1:
		s := m.among("", "x", "it's", "SELECT", ";", "--", "'", strings.Repeat("q", m.pick(65)))
		m.put(lex.Quote(s))
		return text(s)
	case 2:
		n := int64(m.pick(2))
		m.put([]string{"FALSE", "TRUE"}[n])
		return truth(n)
	case 3:
		m.put("NULL")
		return null()
	}
	r := m.ref()
	return &parted{node: api.Node{Kind: 2, Table: r.Table, Name: r.Name}}
}

func (m *made) expr() api.Expr {
	return m.tree(0, m.pick(5)).expr()
}

// list puts what each puts up to four times, with commas between.
func (m *made) list(each func()) {
	each()
	for range m.pick(4) {
		m.put(",")
		each()
	}
}

// where is an expression behind WHERE, or none.
func (m *made) where() api.Expr {
	if m.oneIn(2) {
		return api.Expr{}
	}
	m.put("WHERE")
	return m.expr()
}

// stmt is a statement.
func (m *made) stmt() api.Stmt {
	s := api.Stmt{Kind: 1 + m.pick(6), Limit: -1}
	switch s.Kind {
	case 1:
		m.put("CREATE", "TABLE")
		s.Table = m.name()
		m.put("(")
		m.list(func() { s.Columns = append(s.Columns, m.column()) })
		m.put(")")
	case 2:
		m.put("DROP", "TABLE")
		s.Table = m.name()
	case 3:
		m.put("INSERT", "INTO")
		s.Table = m.name()
		m.put("VALUES", "(")
		m.list(func() { s.Sets = append(s.Sets, api.Set{Expr: m.expr()}) })
		m.put(")")
	case 4:
		m.put("UPDATE")
		s.Table = m.name()
		m.put("SET")
		m.list(func() {
			name := m.name()
			m.put("=")
			s.Sets = append(s.Sets, api.Set{Name: name, Expr: m.expr()})
		})
		s.Where = m.where()
	case 5:
		m.put("DELETE", "FROM")
		s.Table = m.name()
		s.Where = m.where()
	case 6:
		m.choose(&s)
	}
	return s
}

func (m *made) column() api.Defined {
	c := api.Defined{Name: m.name()}
	word := m.among("INT", "BOOL", "TEXT")
	m.put(word)
	c.Type = map[string]int{"INT": 3, "BOOL": 2, "TEXT": 4}[word]
	switch m.pick(3) {
	case 0:
		m.put("PRIMARY", "KEY")
		c.Key = true
	case 1:
		m.put("NOT", "NULL")
		c.NotNull = true
	}
	return c
}

// choose makes a SELECT.
func (m *made) choose(s *api.Stmt) {
	m.put("SELECT")
	if s.Star = m.oneIn(4); s.Star {
		m.put("*")
	} else {
		m.list(func() { s.Items = append(s.Items, m.item()) })
	}
	m.put("FROM")
	s.Table = m.name()
	if m.oneIn(3) {
		m.put("INNER", "JOIN")
		s.Join = m.name()
		m.put("ON")
		s.On = m.expr()
	}
	s.Where = m.where()
	if m.oneIn(3) {
		m.put("GROUP", "BY")
		s.Group = m.ref()
	}
	if m.oneIn(3) {
		m.put("ORDER", "BY")
		s.Order = m.ref()
		if way := m.pick(3); way > 0 {
			m.put([]string{"ASC", "DESC"}[way-1])
			s.Desc = way == 2
		}
	}
	if m.oneIn(3) {
		limit := m.among("0", "7", "1024", "9223372036854775807")
		m.put("LIMIT", limit)
		s.Limit = map[string]int{"0": 0, "7": 7, "1024": 1024, "9223372036854775807": 1<<63 - 1}[limit]
	}
}

func (m *made) item() api.Item {
	switch m.pick(4) {
	case 0:
		m.put("COUNT", "(", "*", ")")
		return api.Item{Kind: 2}
	case 1:
		m.put("SUM", "(")
		e := m.expr()
		m.put(")")
		return api.Item{Kind: 3, Expr: e}
	}
	return api.Item{Kind: 1, Expr: m.expr()}
}

// stmts are up to most statements, with the last ; or without.
func (m *made) stmts(most int) []api.Stmt {
	out := []api.Stmt{m.stmt()}
	for range m.pick(most) {
		m.put(";")
		out = append(out, m.stmt())
	}
	if m.oneIn(2) {
		m.put(";")
	}
	return out
}

// cased is a token, each letter in either case, if it is a kept word.
func (c *chance) cased(token string) string {
	if _, kept := lex.Key(token); !kept {
		return token
	}
	b := []byte(token)
	for i := range b {
		if c.oneIn(2) {
			b[i] |= 32
		}
	}
	return string(b)
}

// loosely are tokens as a text with blanks and remarks between them, or nothing, where two may touch.
func (c *chance) loosely(tokens []string) string {
	var b strings.Builder
	for _, token := range tokens {
		b.WriteString(c.cased(token))
		if !strings.Contains("(),;+*/%.=", token) || c.oneIn(3) {
			b.WriteString(c.among(" ", "\t", "\r\n", "  ", "\n-- a 'b\n", " --;\n", "\n"))
		}
	}
	return b.String()
}

// within tells whether a text has tokens, and no more than it may.
func within(sql string) bool {
	toks, spot := lex.Lex(sql)
	return spot.Err == api.OK && len(toks) > 0
}

// P11.1: statements made by chance are those that their texts have, with blanks and remarks wherever.
func TestParseByChance(t *testing.T) {
	c := chance(1)
	right, deep := 0, 0
	for range 12000 {
		m := made{chance: &c}
		want := m.stmts(3)
		sql := c.loosely(m.tokens)
		if !within(sql) {
			continue
		}
		got, spot := parse.Parse(sql)
		if spot.Err == 211 {
			like(t, sql)
			deep++
			continue
		}
		if saidAll(got, spot) != saidAll(want, api.Spot{}) {
			t.Fatalf("%q: %s; not %s", sql, saidAll(got, spot), saidAll(want, api.Spot{}))
		}
		right++
	}
	if right < 9000 || deep > 100 {
		t.Errorf("%d are right, %d too deep", right, deep)
	}
}

// spoilt are tokens of which one is left out, doubled, another one, or two that have changed their places.
func (c *chance) spoilt(tokens []string) []string {
	out := append([]string{}, tokens...)
	at := c.pick(len(out))
	other := c.among(others()...)
	switch c.pick(5) {
	case 0:
		return append(out[:at], out[at+1:]...)
	case 1:
		return append(append(append([]string{}, out[:at+1]...), out[at]), out[at+1:]...)
	case 2:
		out[at] = other
	case 3:
		return append(append(append([]string{}, out[:at]...), other), out[at:]...)
	default:
		to := c.pick(len(out))
		out[at], out[to] = out[to], out[at]
	}
	return out
}

// P11.1: whatever is spoilt in a text, it is wrong where the model says.
func TestSpoiltByChance(t *testing.T) {
	c := chance(2)
	counts := map[api.Errno]int{}
	for range 9000 {
		m := made{chance: &c}
		m.stmts(2)
		tokens := m.tokens
		for range 1 + c.pick(2) {
			if len(tokens) > 0 {
				tokens = c.spoilt(tokens)
			}
		}
		counts[like(t, c.loosely(tokens))]++
	}
	if counts[api.OK] < 300 || counts[210] < 5000 {
		t.Errorf("%v", counts)
	}
}

// P11.1: of rows of brackets, NOT and signs -, and of many statements, the first of ErrParse, ErrNest and ErrStmts is told.
func TestLimitsByChance(t *testing.T) {
	c := chance(3)
	counts := map[api.Errno]int{}
	for range 6000 {
		var tokens []string
		for range 1 + c.pick(10) {
			tokens = append(tokens, "DELETE", "FROM", "t", ";")
		}
		tokens = append(tokens[:len(tokens)-1], "WHERE")
		brackets := 0
		for range c.pick(36) {
			token := c.among("(", "(", "NOT (", "-", "-", "a +", "a AND", "a ) OR", "(", "- (")
			if strings.Contains(token, ")") && brackets == 0 {
				continue
			}
			brackets += strings.Count(token, "(") - strings.Count(token, ")")
			tokens = append(tokens, token)
		}
		tokens = append(append(tokens, "a"), strings.Split(strings.Repeat(")", brackets), "")...)
		if c.oneIn(3) {
			at := c.pick(len(tokens))
			tokens[at] = c.among("NOT", "-", "(", "a", ";", "=")
		}
		counts[like(t, strings.Join(tokens, " "))]++
	}
	for _, err := range []api.Errno{api.OK, 210, 211, 212} {
		if counts[err] < 300 {
			t.Errorf("%d texts of %d", counts[err], err)
		}
	}
}

// P11.1: tokens in whatever order.
func TestTokensByChance(t *testing.T) {
	c := chance(4)
	all := others()
	for range 20000 {
		tokens := []string{c.among("CREATE TABLE t (", "DROP TABLE", "INSERT INTO t VALUES (", "UPDATE t SET a =", "DELETE FROM t WHERE", "SELECT", "SELECT * FROM t", "SELECT a FROM t WHERE")}
		for range c.pick(8) {
			if c.oneIn(2) {
				tokens = append(tokens, c.among("a", "1", "'x'", "NULL", "(", ")", "NOT", "-"))
				continue
			}
			tokens = append(tokens, c.among(all...))
		}
		like(t, strings.Join(tokens, " "))
	}
}

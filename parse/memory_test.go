package parse_test

import (
	"slices"
	"strings"
	"testing"
	"unsafe"

	"tallyhouse/api"
	"tallyhouse/parse"
)

// loose is a text whose bytes are the test's own, so that a change of them shows who keeps it.
func loose(s string) (string, []byte) {
	b := []byte(s)
	return unsafe.String(&b[0], len(b)), b
}

// spoil writes over bytes.
func spoil(b []byte) {
	for i := range b {
		b[i] = '?'
	}
}

// spoilExpr writes over rows, and over the room behind them.
func spoilExpr(e api.Expr) {
	room := e.Nodes[:cap(e.Nodes)]
	for i := range room {
		room[i] = api.Node{Kind: 77, Name: "spoilt"}
	}
}

// spoilStmt writes over all lists of a statement, and over the room behind them.
func spoilStmt(s api.Stmt) {
	for i, set := range s.Sets[:cap(s.Sets)] {
		spoilExpr(set.Expr)
		s.Sets[:cap(s.Sets)][i] = api.Set{Name: "spoilt"}
	}
	for i, item := range s.Items[:cap(s.Items)] {
		spoilExpr(item.Expr)
		s.Items[:cap(s.Items)][i] = api.Item{Kind: 77}
	}
	for i := range s.Columns[:cap(s.Columns)] {
		s.Columns[:cap(s.Columns)][i] = api.Defined{Name: "spoilt"}
	}
	spoilExpr(s.On)
	spoilExpr(s.Where)
}

// R3: statements keep nothing of their text.
func TestParseKeepsNothing(t *testing.T) {
	for _, sql := range append(slices.Clone(some), "SELECT a FROM", "x", "#") {
		own, b := loose(sql)
		got, spot := parse.Parse(own)
		want, at := parse.Parse(sql)
		if string(b) != sql {
			t.Errorf("Parse changes %q", sql)
		}
		spoil(b)
		if saidAll(got, spot) != saidAll(want, at) {
			t.Errorf("Parse keeps %q: %s", sql, saidAll(got, spot))
		}
	}
}

// R3: no two lists of what Parse answers share their memory, of one answer or of two.
func TestParseSharesNothing(t *testing.T) {
	sql := strings.Join(some[2:6], ";") + ";" + some[0]
	want, spot := parse.Parse(sql)
	was := saidAll(want, spot)
	got, _ := parse.Parse(sql)
	for i, s := range got {
		spoilStmt(s)
		got[i] = api.Stmt{}
		for j, other := range got[i+1:] {
			if said(other) != said(want[i+1+j]) {
				t.Errorf("%d and %d share their lists", i, i+1+j)
			}
		}
	}
	if again, spot := parse.Parse(sql); saidAll(again, spot) != was || saidAll(want, api.Spot{}) != was {
		t.Error("two answers share their lists")
	}
	s, twin := one(t, some[5]), one(t, some[5])
	for spoilt, e := range map[string]api.Expr{"an item": s.Items[0].Expr, "On": s.On, "Where": s.Where, "a sum": s.Items[2].Expr} {
		was := slices.Clone(e.Nodes)
		spoilExpr(e)
		copy(e.Nodes, was)
		if !parse.Same(s, twin) {
			t.Errorf("%s shares its rows", spoilt)
		}
	}
	u := one(t, "UPDATE t SET a = b + c, d = e + f, g = h WHERE i")
	spoilExpr(u.Sets[0].Expr)
	spoilExpr(u.Where)
	if saidExpr(u.Sets[1].Expr) != saidExpr(of("+", col("e"), col("f")).expr()) || saidExpr(u.Sets[2].Expr) != saidExpr(col("h").expr()) {
		t.Error(said(u))
	}
}

// roomy is a statement whose lists have room behind them.
func roomy(s api.Stmt) api.Stmt {
	nodes := func(e api.Expr) api.Expr {
		return api.Expr{Nodes: append(append([]api.Node{}, e.Nodes...), api.Node{Kind: 3}, api.Node{Name: "room"})[:len(e.Nodes)]}
	}
	s.Columns = append(append([]api.Defined{}, s.Columns...), api.Defined{Name: "room"})[:len(s.Columns)]
	s.Sets = append(append([]api.Set{}, s.Sets...), api.Set{Name: "room"})[:len(s.Sets)]
	s.Items = append(append([]api.Item{}, s.Items...), api.Item{Kind: 2})[:len(s.Items)]
	for i := range s.Sets {
		s.Sets[i].Expr = nodes(s.Sets[i].Expr)
	}
	for i := range s.Items {
		s.Items[i].Expr = nodes(s.Items[i].Expr)
	}
	s.On, s.Where = nodes(s.On), nodes(s.Where)
	return s
}

// withRoom is a statement with the room behind its lists.
func withRoom(s api.Stmt) api.Stmt {
	s.Columns, s.Sets, s.Items = slices.Clone(s.Columns[:cap(s.Columns)]), slices.Clone(s.Sets[:cap(s.Sets)]), slices.Clone(s.Items[:cap(s.Items)])
	for i, set := range s.Sets {
		s.Sets[i].Expr.Nodes = set.Expr.Nodes[:cap(set.Expr.Nodes)]
	}
	for i, item := range s.Items {
		s.Items[i].Expr.Nodes = item.Expr.Nodes[:cap(item.Expr.Nodes)]
	}
	s.On.Nodes, s.Where.Nodes = s.On.Nodes[:cap(s.On.Nodes)], s.Where.Nodes[:cap(s.Where.Nodes)]
	return s
}

// R3: Print and Same change nothing of what they are handed, the room behind a list neither.
func TestStmtsAreNotChanged(t *testing.T) {
	stmts := []api.Stmt{full(), {Kind: 6}, {Kind: 5, Where: num(-5).expr()}}
	for _, sql := range some {
		all, _ := parse.Parse(sql)
		stmts = append(stmts, all...)
	}
	for _, s := range stmts {
		in := roomy(s)
		was := said(withRoom(in))
		text := parse.Print(in)
		parse.Same(in, s)
		parse.Same(s, in)
		parse.Same(in, in)
		if said(withRoom(in)) != was || text != parse.Print(s) {
			t.Errorf("%s was changed: %s", was, said(withRoom(in)))
		}
	}
}

// R3: a text that Print answers is new.
func TestPrintKeepsNothing(t *testing.T) {
	name, b := loose("name")
	word, w := loose("it's")
	s := api.Stmt{Kind: 4, Table: name, Sets: []api.Set{{Name: name, Expr: text(word).expr()}, {Name: "x", Expr: col(name).expr()}}, Where: col(name).expr(), Limit: -1}
	got := parse.Print(s)
	spoil(b)
	spoil(w)
	if got != "UPDATE name SET name = 'it''s' , x = name WHERE name" {
		t.Errorf("%q", got)
	}
}

// R5: the same arguments have the same answers, whatever was asked between.
func TestSameAnswers(t *testing.T) {
	c := chance(21)
	var texts, answers []string
	for range 300 {
		m := made{chance: &c}
		m.stmts(2)
		sql := c.loosely(c.spoilt(m.tokens))
		got, spot := parse.Parse(sql)
		texts, answers = append(texts, sql), append(answers, saidAll(got, spot))
	}
	for i, sql := range slices.Backward(texts) {
		if got, spot := parse.Parse(sql); saidAll(got, spot) != answers[i] {
			t.Errorf("%q: %s", sql, saidAll(got, spot))
		}
	}
}

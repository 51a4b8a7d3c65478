package check_test

import (
	"slices"
	"strings"

	"tallyhouse/api"
	"tallyhouse/table"
	"tallyhouse/value"
)

// The model says the chapter's words again: errors are noted where they are met, and the first that was noted is answered.

// of are how many nodes a node is of, by its Kind.
var of = map[int]int{1: 0, 2: 0, 3: 1, 4: 1, 5: 2, 6: 2, 7: 2, 8: 2, 9: 1, 10: 1}

// lastOp are the last Ops, by the Kinds that have some.
var lastOp = map[int]int{7: 6, 8: 5}

func modelExpr(e api.Expr) bool {
	for at, n := range e.Nodes {
		parts, is := of[n.Kind]
		last, ops := lastOp[n.Kind]
		switch {
		case !is, n.Kind == 1 && value.Check(n.Value) != 0:
			return false
		case parts > 0 && (n.A < 0 || n.A >= at), parts > 1 && (n.B < 0 || n.B >= at):
			return false
		case ops && (n.Op < 1 || n.Op > last):
			return false
		}
	}
	return len(e.Nodes) > 0 && len(e.Nodes) <= 300
}

// modelMay tells whether a statement may be.
func modelMay(s api.Stmt) bool {
	count := 1
	var exprs []api.Expr
	switch {
	case s.Kind < 1 || s.Kind > 6 || s.Limit < -1:
		return false
	case s.Kind == 1:
		count = len(s.Columns)
	case s.Kind == 3 || s.Kind == 4:
		count = len(s.Sets)
		for _, set := range s.Sets {
			exprs = append(exprs, set.Expr)
		}
	case s.Kind == 6 && !s.Star:
		count = len(s.Items)
		for _, i := range s.Items {
			switch i.Kind {
			case 1, 3:
				exprs = append(exprs, i.Expr)
			case 2:
			default:
				return false
			}
		}
	}
	if s.Kind >= 4 && len(s.Where.Nodes) > 0 {
		exprs = append(exprs, s.Where)
	}
	if s.Join != "" {
		exprs = append(exprs, s.On)
	}
	return count > 0 && count <= 300 && !slices.ContainsFunc(exprs, func(e api.Expr) bool { return !modelExpr(e) })
}

// goTogether are the types that a node's parts may have, one by one, by the Kind and the Op: N null, B bool, I number, T text.
func goTogether(kind, op int) string {
	switch {
	case kind == 3:
		return "N B"
	case kind == 4:
		return "N I"
	case kind == 5 || kind == 6:
		return "NN NB BN BB"
	case kind == 7 && op <= 2:
		return "NN NB NI NT BN BB IN II TN TT"
	case kind == 7:
		return "NN NI NT IN II TN TT"
	case kind == 8:
		return "NN NI IN II"
	}
	return "N B I T"
}

// letters are types as goTogether writes them.
func letters(types ...int) string {
	out := ""
	for _, t := range types {
		out += string("?NBIT"[t])
	}
	return out
}

// modeller makes a plan; behind the first error what it makes is of no use any more.
type modeller struct {
	err    api.Errno
	tables []api.Table
}

// note notes an error, if it is the first one.
func (m *modeller) note(so bool, err api.Errno) {
	if so && m.err == 0 {
		m.err = err
	}
}

func (m *modeller) find(s api.Store, name string) api.Table {
	for _, t := range s.Tables {
		if t.Name == name {
			return t
		}
	}
	m.note(true, 4)
	return api.Table{}
}

// column is the place of the column that is meant, and its type.
func (m *modeller) column(table, name string) (api.Place, int) {
	var places []api.Place
	for i, t := range m.tables {
		for j, d := range t.Columns {
			if d.Name == name && (table == "" || table == t.Name) {
				places = append(places, api.Place{Table: i, Column: j})
			}
		}
	}
	m.note(len(places) == 0, 231)
	m.note(len(places) == 2, 232)
	if len(places) == 0 {
		return api.Place{Table: -1, Column: -1}, 1
	}
	return places[0], m.tables[places[0].Table].Columns[places[0].Column].Type
}

// expr is an expression with the places of its columns, and its type.
func (m *modeller) expr(e api.Expr) (api.Expr, int) {
	var nodes []api.Node
	var types []int
	for _, n := range e.Nodes {
		parts := []int{}
		if of[n.Kind] > 0 {
			parts = append(parts, types[n.A])
		}
		if of[n.Kind] > 1 {
			parts = append(parts, types[n.B])
		}
		whole := map[int]int{1: n.Value.Kind, 3: 2, 4: 3, 5: 2, 6: 2, 7: 2, 8: 3, 9: 2, 10: 2}[n.Kind]
		if n.Kind == 2 {
			var p api.Place
			p, whole = m.column(n.Table, n.Name)
			n.A, n.B = p.Table, p.Column
		} else if len(parts) > 0 {
			m.note(!slices.Contains(strings.Fields(goTogether(n.Kind, n.Op)), letters(parts...)), 233)
		}
		nodes, types = append(nodes, n), append(types, whole)
	}
	if len(types) == 0 {
		return e, 1
	}
	return api.Expr{Nodes: nodes}, types[len(types)-1]
}

// typed is an expression whose type is to be that one, or the one of null.
func (m *modeller) typed(e api.Expr, want int) api.Expr {
	out, is := m.expr(e)
	m.note(is != want && is != 1, 233)
	return out
}

func (m *modeller) create(s api.Stmt) {
	m.note(len(s.Columns) > 6, 6)
	keys := 0
	for i, d := range s.Columns {
		for _, other := range s.Columns[:i] {
			m.note(other.Name == d.Name, 232)
		}
		if d.Key {
			keys++
		}
	}
	m.note(keys != 1, 235)
}

// sets are the Sets of an INSERT or an UPDATE, with places.
func (m *modeller) sets(s api.Stmt, t api.Table) []api.Set {
	m.note(s.Kind == 3 && len(s.Sets) != len(t.Columns), 234)
	var out []api.Set
	for i, set := range s.Sets {
		at := i
		if s.Kind == 4 {
			at = slices.IndexFunc(t.Columns, func(d api.Defined) bool { return d.Name == set.Name })
		}
		column := api.Defined{Type: 1}
		if at >= 0 && at < len(t.Columns) {
			column = t.Columns[at]
		}
		if s.Kind == 4 {
			m.note(at < 0, 231)
			m.note(column.Key, 235)
			for _, ahead := range s.Sets[:i] {
				m.note(ahead.Name == set.Name, 232)
			}
		}
		set.Expr = m.typed(set.Expr, column.Type)
		out = append(out, set)
	}
	return out
}

// choose is the plan of a SELECT.
func (m *modeller) choose(store api.Store, s api.Stmt) api.Plan {
	m.tables = []api.Table{m.find(store, s.Table)}
	if s.Join != "" {
		m.tables = append(m.tables, m.find(store, s.Join))
		m.note(s.Join == s.Table, 232)
		s.On = m.typed(s.On, 2)
	}
	s.Where = m.typed(s.Where, 2)
	p := api.Plan{Group: api.Place{Table: -1, Column: -1}, Order: api.Place{Table: -1, Column: -1}}
	if s.Group != (api.Ref{}) {
		p.Group, _ = m.column(s.Group.Table, s.Group.Name)
	}
	var items []api.Item
	kinds := ""
	for _, i := range s.Items {
		if s.Star {
			items = append(items, i)
			continue
		}
		whole := 3
		switch i.Kind {
		case 1:
			i.Expr, whole = m.expr(i.Expr)
		case 3:
			i.Expr = m.typed(i.Expr, 3)
		}
		items, kinds, p.Types = append(items, i), kinds+string("?ecs"[i.Kind]), append(p.Types, whole)
	}
	for _, t := range m.tables {
		for _, d := range t.Columns {
			if s.Star {
				p.Types = append(p.Types, d.Type)
			}
		}
	}
	s.Items = items
	if s.Order != (api.Ref{}) {
		p.Order, _ = m.column(s.Order.Table, s.Order.Name)
	}
	m.group(s, &p, kinds)
	p.Stmt = s
	return p
}

// group notes ErrGroup; kinds are those of the Items: e an expression, c COUNT, s SUM.
func (m *modeller) group(s api.Stmt, p *api.Plan, kinds string) {
	several := strings.ContainsAny(kinds, "cs")
	if s.Group == (api.Ref{}) {
		p.Many = several
		m.note(several && strings.Contains(kinds, "e"), 236)
		m.note(several && s.Order != (api.Ref{}), 236)
		return
	}
	m.note(s.Star, 236)
	for at, kind := range kinds {
		if kind != 'e' {
			continue
		}
		nodes := s.Items[at].Expr.Nodes
		m.note(len(nodes) != 1 || nodes[0].Kind != 2 || nodes[0].A != p.Group.Table || nodes[0].B != p.Group.Column, 236)
	}
	m.note(s.Order != (api.Ref{}) && p.Order != p.Group, 236)
}

func modelCheck(store api.Store, s api.Stmt) (api.Plan, api.Errno) {
	if table.Check(store) != 0 {
		return api.Plan{}, 220
	}
	if !modelMay(s) {
		return api.Plan{}, 230
	}
	var m modeller
	p := api.Plan{Group: api.Place{Table: -1, Column: -1}, Order: api.Place{Table: -1, Column: -1}}
	switch s.Kind {
	case 1:
		m.create(s)
	case 6:
		p = m.choose(store, s)
		s = p.Stmt
	default:
		t := m.find(store, s.Table)
		if s.Kind > 3 {
			m.tables = []api.Table{t}
		}
		if s.Kind == 3 || s.Kind == 4 {
			s.Sets = m.sets(s, t)
		}
		if s.Kind > 3 {
			s.Where = m.typed(s.Where, 2)
		}
	}
	if m.err != 0 {
		return api.Plan{}, m.err
	}
	p.Stmt = s
	return p, 0
}

package check_test

import (
	"slices"

	"tallyhouse/api"
)

// chance picks by a row that is always the same.
type chance uint64

// pick is a number below n.
func (c *chance) pick(n int) int {
	*c = *c*6364136223846793005 + 1442695040888963407
	return int(uint64(*c) >> 33 % uint64(n))
}

// oneIn is true one time in n.
func (c *chance) oneIn(n int) bool {
	return c.pick(n) == 0
}

// among is one of these.
func (c *chance) among(all ...string) string {
	return all[c.pick(len(all))]
}

// table is one that may be, without rows.
func (c *chance) table(name string) api.Table {
	t := api.Table{Name: name}
	for _, column := range []string{"a", "b", "c", "d", "e", "f"} {
		if c.oneIn(2) || column == "c" {
			t.Columns = append(t.Columns, api.Defined{Name: column, Type: 2 + c.pick(3), NotNull: c.oneIn(3)})
		}
	}
	key := c.pick(len(t.Columns))
	t.Columns[key].Key, t.Columns[key].NotNull = true, false
	return t
}

// store is up to four tables that may be.
func (c *chance) store() api.Store {
	var s api.Store
	for _, name := range []string{"t", "u", "v", "w"} {
		if !c.oneIn(4) {
			s.Tables = append(s.Tables, c.table(name))
		}
	}
	return s
}

// fill puts rows into tables, in the order of their keys.
func (c *chance) fill(s api.Store) api.Store {
	out := api.Store{Tables: slices.Clone(s.Tables)}
	for i, t := range out.Tables {
		many := c.pick(9)
		if c.oneIn(3) {
			many = 40
		}
		t.Rows = nil
		for n := range many {
			var row []api.Value
			for _, d := range t.Columns {
				row = append(row, c.rowValue(d, n))
			}
			if row[keyOf(t)].Kind == 2 && n > 1 {
				break
			}
			t.Rows = append(t.Rows, row)
		}
		out.Tables[i] = t
	}
	return out
}

func keyOf(t api.Table) int {
	return slices.IndexFunc(t.Columns, func(d api.Defined) bool { return d.Key })
}

// rowValue is a value for a column; those of a key rise with n.
func (c *chance) rowValue(d api.Defined, n int) api.Value {
	switch {
	case !d.Key && !d.NotNull && c.oneIn(3):
		return api.Value{Kind: 1}
	case d.Type == 2:
		return api.Value{Kind: 2, Num: int64(n % 2)}
	case d.Type == 3:
		return api.Value{Kind: 3, Num: int64(10*n + c.pick(10) - 50)}
	}
	return api.Value{Kind: 4, Text: string(rune('A'+n)) + c.among("", "x", "\x00")}
}

// maker makes statements against tables; most of them are right.
type maker struct {
	*chance
	store api.Store
	from  []api.Table
	wrong int // one time in so many something is made wrong
}

// slips is true now and then.
func (m *maker) slips() bool {
	return m.oneIn(m.wrong)
}

// tableName is the name of a table that is there, if there is one.
func (m *maker) tableName() string {
	if len(m.store.Tables) == 0 || m.slips() {
		return m.among("t", "u", "v", "w", "none", "")
	}
	return m.store.Tables[m.pick(len(m.store.Tables))].Name
}

// open is the table of a name as one whose columns are meant.
func (m *maker) open(name string) api.Table {
	for _, t := range m.store.Tables {
		if t.Name == name {
			m.from = append(m.from, t)
			return t
		}
	}
	return api.Table{Name: name, Columns: []api.Defined{{Name: "a", Type: 3, Key: true}}}
}

// column names a column of that type, if it finds one.
func (m *maker) column(kind int) (api.Ref, bool) {
	if m.slips() || m.slips() {
		return api.Ref{Table: m.among("", "", "t", "u", "none"), Name: m.among("a", "b", "c", "d", "e", "f", "zz", "")}, true
	}
	var all []api.Ref
	for i, t := range m.from {
		for _, d := range t.Columns {
			if d.Type != kind && kind > 0 {
				continue
			}
			all = append(all, api.Ref{Table: t.Name, Name: d.Name})
			twice := len(m.from) > 1 && slices.ContainsFunc(m.from[1-i].Columns, func(other api.Defined) bool { return other.Name == d.Name })
			if !twice || m.oneIn(20) {
				all = append(all, api.Ref{Name: d.Name})
			}
		}
	}
	if len(all) == 0 {
		return api.Ref{}, false
	}
	return all[m.pick(len(all))], true
}

// expr is an expression of that type, mostly; 0 is whatever type.
func (m *maker) expr(kind, deep int) api.Expr {
	var e api.Expr
	m.put(&e, kind, deep)
	return e
}

// put puts nodes of that type behind those of e, and tells the place of the last one.
func (m *maker) put(e *api.Expr, kind, deep int) int {
	if kind == 0 || m.slips() {
		kind = 2 + m.pick(3)
	}
	n := api.Node{}
	switch {
	case deep == 0 || kind == 4 || m.oneIn(4):
		n = m.leaf(kind)
	case kind == 3:
		n = api.Node{Kind: 8, Op: 1 + m.pick(5)}
		if m.oneIn(3) {
			n = api.Node{Kind: 4}
		}
		m.parts(e, &n, 3, 3, deep)
	default:
		m.truth(e, &n, deep)
	}
	if m.oneIn(40) {
		n.Table, n.Op = m.among(n.Table, "t"), max(n.Op, 1)
	}
	e.Nodes = append(e.Nodes, n)
	return len(e.Nodes) - 1
}

func (m *maker) parts(e *api.Expr, n *api.Node, a, b, deep int) {
	n.A = m.put(e, a, deep-1)
	if n.Kind >= 5 && n.Kind <= 8 {
		n.B = m.put(e, b, deep-1)
	}
}

// truth makes n a node of the type of bools.
func (m *maker) truth(e *api.Expr, n *api.Node, deep int) {
	n.Kind = []int{3, 5, 6, 7, 7, 9, 10}[m.pick(7)]
	part := 2
	switch n.Kind {
	case 7:
		n.Op = 1 + m.pick(6)
		part = 3 + m.pick(2)
		if n.Op < 3 {
			part = 2 + m.pick(3)
		}
	case 9, 10:
		part = 0
	}
	m.parts(e, n, part, part, deep)
}

// leaf is a node that is of no others.
func (m *maker) leaf(kind int) api.Node {
	if ref, there := m.column(kind); there && !m.oneIn(3) {
		return api.Node{Kind: 2, Table: ref.Table, Name: ref.Name, A: m.pick(3), B: -m.pick(3)}
	}
	v := api.Value{Kind: kind}
	switch {
	case m.oneIn(5):
		v.Kind = 1
	case kind == 2:
		v.Num = int64(m.pick(2))
	case kind == 3:
		v.Num = int64(m.pick(9) - 4)
	default:
		v.Text = m.among("", "x", "it's")
	}
	return api.Node{Kind: 1, Value: v}
}

func (m *maker) where() api.Expr {
	if m.oneIn(3) {
		return api.Expr{}
	}
	return m.expr(2, m.pick(4))
}

// stmt is a statement.
func (m *maker) stmt() api.Stmt {
	s := api.Stmt{Kind: 1 + m.pick(6), Limit: m.pick(4) - 1}
	if m.oneIn(3) {
		s.Kind = 6
	}
	m.from = nil
	switch s.Kind {
	case 1:
		s.Table, s.Columns = m.among("t", "x", ""), m.table("x").Columns
		for range m.pick(4) {
			if m.slips() || m.slips() {
				s.Columns = append(s.Columns, m.table("y").Columns...)
			}
		}
	case 2:
		s.Table = m.tableName()
	case 3:
		s.Table = m.tableName()
		for _, d := range m.open(s.Table).Columns {
			m.from = nil
			if m.slips() {
				m.open(s.Table)
			}
			s.Sets = append(s.Sets, api.Set{Name: m.among("", "a", "zz"), Expr: m.expr(d.Type, m.pick(3))})
		}
		if m.slips() {
			s.Sets = append(s.Sets, api.Set{Expr: m.expr(0, 1)})
		}
	case 4:
		m.update(&s)
	case 5:
		s.Table = m.tableName()
		m.open(s.Table)
		s.Where = m.where()
	case 6:
		m.choose(&s)
	}
	return s
}

func (m *maker) update(s *api.Stmt) {
	s.Table = m.tableName()
	for _, d := range m.open(s.Table).Columns {
		for range 1 + m.pick(2) {
			switch {
			case m.slips():
				s.Sets = append(s.Sets, api.Set{Name: m.among("zz", "a", "b", d.Name), Expr: m.expr(d.Type, 1)})
			case !d.Key && !slices.ContainsFunc(s.Sets, func(x api.Set) bool { return x.Name == d.Name }):
				s.Sets = append(s.Sets, api.Set{Name: d.Name, Expr: m.expr(d.Type, m.pick(4))})
			}
		}
	}
	if len(s.Sets) == 0 {
		s.Sets = []api.Set{{Name: "c", Expr: m.expr(0, 1)}}
	}
	for i := range s.Sets {
		to := m.pick(len(s.Sets))
		s.Sets[i], s.Sets[to] = s.Sets[to], s.Sets[i]
	}
	s.Where = m.where()
}

func (m *maker) choose(s *api.Stmt) {
	s.Table = m.tableName()
	m.open(s.Table)
	if m.oneIn(2) {
		s.Join = m.tableName()
		for range 9 {
			if s.Join == s.Table && !m.slips() {
				s.Join = m.tableName()
			}
		}
		if s.Join != s.Table && s.Join != "" {
			m.open(s.Join)
		}
		s.On = m.expr(2, m.pick(3))
	}
	s.Where = m.where()
	if m.oneIn(3) {
		s.Group, _ = m.column(0)
	}
	m.items(s)
	gathers := s.Group != api.Ref{} || slices.ContainsFunc(s.Items, func(i api.Item) bool { return i.Kind > 1 })
	if m.oneIn(2) && (!gathers || m.slips()) {
		s.Order, _ = m.column(0)
	} else if m.oneIn(2) {
		s.Order = s.Group
	}
	s.Desc = m.oneIn(2)
}

func (m *maker) items(s *api.Stmt) {
	if m.oneIn(5) && (s.Group == api.Ref{} || m.slips()) {
		s.Star = true
		if m.oneIn(2) {
			return
		}
	}
	way := m.pick(2)
	for range 1 + m.pick(3) {
		i := api.Item{Kind: 2 + m.pick(2)}
		if way == 0 || s.Group != (api.Ref{}) && m.oneIn(2) || m.slips() {
			i.Kind = 1
		}
		switch {
		case i.Kind == 3:
			i.Expr = m.expr(3, m.pick(3))
		case i.Kind == 1 && s.Group != (api.Ref{}) && !m.slips():
			i.Expr = node(api.Node{Kind: 2, Table: s.Group.Table, Name: s.Group.Name})
		case i.Kind == 1:
			i.Expr = m.expr(0, m.pick(3))
		case m.oneIn(9):
			i.Expr = m.expr(0, 1)
		}
		s.Items = append(s.Items, i)
	}
}

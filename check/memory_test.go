package check_test

import (
	"fmt"
	"slices"
	"strings"
	"testing"
	"unsafe"

	"tallyhouse/api"
	"tallyhouse/check"
)

// memory is what a test hands in, all of which it can write over: texts whose bytes are its own, and lists with room behind their ends.
type memory struct {
	spoils []func()
	seen   []func() string
}

// text is the same text in bytes that can be written over.
func (m *memory) text(s string) string {
	if s == "" {
		return ""
	}
	b := []byte(s)
	m.spoils = append(m.spoils, func() {
		for i := range b {
			b[i] = '?'
		}
	})
	m.seen = append(m.seen, func() string { return string(b) })
	return unsafe.String(&b[0], len(b))
}

// roomy is a list of what own makes of each one, with room behind its end, in which something stands.
func roomy[T any](m *memory, l []T, room T, own func(T) T) []T {
	all := append(slices.Clone(l), room, room, room)
	for i, x := range l {
		all[i] = own(x)
	}
	m.spoils = append(m.spoils, func() {
		for i := range all {
			all[i] = room
		}
	})
	m.seen = append(m.seen, func() string { return fmt.Sprint(all) })
	return all[:len(l)]
}

func (m *memory) value(v api.Value) api.Value {
	v.Text = m.text(v.Text)
	return v
}

func (m *memory) columns(l []api.Defined) []api.Defined {
	return roomy(m, l, api.Defined{Name: "room", Type: 77, Key: true}, func(d api.Defined) api.Defined {
		d.Name = m.text(d.Name)
		return d
	})
}

func (m *memory) store(s api.Store) api.Store {
	return api.Store{Tables: roomy(m, s.Tables, api.Table{Name: "room"}, func(t api.Table) api.Table {
		rows := roomy(m, t.Rows, nil, func(row []api.Value) []api.Value {
			return roomy(m, row, api.Value{Kind: 77}, m.value)
		})
		return api.Table{Name: m.text(t.Name), Columns: m.columns(t.Columns), Rows: rows}
	})}
}

func (m *memory) expr(e api.Expr) api.Expr {
	return api.Expr{Nodes: roomy(m, e.Nodes, api.Node{Kind: 2, Name: "room", A: 77, B: 77}, func(n api.Node) api.Node {
		n.Table, n.Name, n.Value = m.text(n.Table), m.text(n.Name), m.value(n.Value)
		return n
	})}
}

func (m *memory) ref(r api.Ref) api.Ref {
	return api.Ref{Table: m.text(r.Table), Name: m.text(r.Name)}
}

func (m *memory) stmt(s api.Stmt) api.Stmt {
	s.Table, s.Join = m.text(s.Table), m.text(s.Join)
	s.Columns = m.columns(s.Columns)
	s.Sets = roomy(m, s.Sets, api.Set{Name: "room"}, func(x api.Set) api.Set {
		return api.Set{Name: m.text(x.Name), Expr: m.expr(x.Expr)}
	})
	s.Items = roomy(m, s.Items, api.Item{Kind: 77}, func(i api.Item) api.Item {
		return api.Item{Kind: i.Kind, Expr: m.expr(i.Expr)}
	})
	s.On, s.Where = m.expr(s.On), m.expr(s.Where)
	s.Group, s.Order = m.ref(s.Group), m.ref(s.Order)
	return s
}

// holds is all that was handed in, the room behind lists, too.
func (m *memory) holds() string {
	var b strings.Builder
	for _, seen := range m.seen {
		b.WriteString(seen() + "\n")
	}
	return b.String()
}

func (m *memory) spoil() {
	for _, spoil := range m.spoils {
		spoil()
	}
}

// full is a statement of a text, in which stands what does not count for its Kind, too.
func full(t *testing.T, sql string) api.Stmt {
	t.Helper()
	s := odd(parsed(t, sql), expr(t, "zz = 'odd' OR d"))
	s.Columns = append(s.Columns[:0:0], parsed(t, "CREATE TABLE x (a INT, b TEXT)").Columns...)
	if s.Kind != 6 {
		s.Join = "none"
	}
	return s
}

// fulls are such statements of each Kind.
func fulls(t *testing.T) []api.Stmt {
	t.Helper()
	var out []api.Stmt
	for _, sql := range []string{
		"DROP TABLE t", "INSERT INTO t VALUES (1, 'x' , TRUE, 1 + 2)", "INSERT INTO t VALUES (a, 'x', TRUE, 1)", "UPDATE t SET b = 'new', d = a + 1 WHERE b = 'old' AND t.a = 1",
		"DELETE FROM t WHERE t.b = 'x' OR a = 2", "DELETE FROM u WHERE e = b", "SELECT a, t.b, 'said' FROM t WHERE d = 1 AND b = 'x' ORDER BY t.b", "SELECT * FROM t WHERE b = 'x'",
		"SELECT b, COUNT(*), SUM(d) FROM t GROUP BY b ORDER BY b DESC", "SELECT a + 'x' FROM t", "DELETE FROM none WHERE a = 1",
	} {
		out = append(out, full(t, sql))
	}
	joined := parsed(t, "SELECT n, SUM(t.a) FROM t INNER JOIN u ON b = u.a AND e = 'x' WHERE t.c GROUP BY n ORDER BY u.n")
	created := parsed(t, "CREATE TABLE x (a INT PRIMARY KEY, b TEXT, c BOOL)")
	return append(out, joined, created, full(t, "CREATE TABLE x (a INT PRIMARY KEY)"), api.Stmt{}, api.Stmt{Kind: 6, Table: "t", Items: joined.Items, Limit: -2})
}

// stores are tables with rows and without any, and some that may not be.
func stores(t *testing.T) []api.Store {
	t.Helper()
	c := chance(21)
	s := made(t, setup)
	return []api.Store{c.fill(s), s, {}, {Tables: []api.Table{s.Tables[1], s.Tables[0]}}}
}

// R3: nothing that is handed in is changed or kept, down to nodes and to the bytes of texts.
func TestNothingIsChangedOrKept(t *testing.T) {
	for _, store := range stores(t) {
		for _, s := range fulls(t) {
			var m, other memory
			x, y := m.store(store), m.stmt(s)
			other.store(store)
			other.stmt(s)
			may := check.May(y)
			p, err := check.Check(x, y)
			if m.holds() != other.holds() {
				t.Errorf("%+v was changed", s)
			}
			want, wrong := check.Check(store, s)
			m.spoil()
			if err != wrong || !same(p, want) || may != check.May(s) {
				t.Errorf("%+v was kept: %d %s; not %d %s", s, err, said(p), wrong, said(want))
			}
		}
	}
}

// list is one of a plan's lists: what it holds itself, and how it is written over, with the room behind it.
type list struct {
	name  string
	holds func() string
	spoil func()
}

func listOf[T any](name string, l []T, bad T, shallow func(T) any) list {
	return list{name, func() string {
		out := ""
		for _, x := range l {
			out += fmt.Sprintf("%+v;", shallow(x))
		}
		return out
	}, func() {
		room := l[:cap(l)]
		for i := range room {
			room[i] = bad
		}
	}}
}

// lists are all lists of a plan.
func lists(p *api.Plan) []list {
	s := &p.Stmt
	out := []list{
		listOf("Columns", s.Columns, api.Defined{Name: "bad"}, func(d api.Defined) any { return d }),
		listOf("Sets", s.Sets, api.Set{Name: "bad"}, func(x api.Set) any { return x.Name }),
		listOf("Items", s.Items, api.Item{Kind: 77}, func(i api.Item) any { return i.Kind }),
		listOf("Types", p.Types, 77, func(n int) any { return n }),
	}
	for i, e := range exprsOf(s) {
		out = append(out, listOf(fmt.Sprint("expression ", i), e.Nodes, api.Node{Kind: 77}, func(n api.Node) any { return n }))
	}
	return out
}

// R3: no two lists of one plan, or of two, share their memory.
func TestPlansShareNothing(t *testing.T) {
	store := stores(t)[0]
	tried := 0
	for _, s := range fulls(t) {
		many := len(lists(&api.Plan{Stmt: s}))
		for i := range many {
			p, err := check.Check(store, s)
			other, _ := check.Check(store, s)
			was := said(other)
			if err != api.OK {
				continue
			}
			all := lists(&p)
			var held []string
			for _, l := range all {
				held = append(held, l.holds())
			}
			all[i].spoil()
			for j, l := range all {
				if i != j && l.holds() != held[j] {
					t.Errorf("%s and %s share their memory", all[i].name, l.name)
				}
			}
			if said(other) != was {
				t.Errorf("%s of two plans share their memory", all[i].name)
			}
			tried++
		}
	}
	if tried < 80 {
		t.Error(tried)
	}
}

// R3: expressions that are handed in as one list have places of their own, and those that do not count have none.
func TestOneListForSeveral(t *testing.T) {
	e := expr(t, "d = 1")
	one := func() api.Stmt {
		return api.Stmt{Kind: 6, Table: "t", Items: []api.Item{{Kind: 1, Expr: e}, {Kind: 1, Expr: e}}, Where: e, On: e, Sets: []api.Set{{Expr: e}}, Limit: -1}
	}
	s := one()
	p, err := check.Check(made(t, setup), s)
	for i, x := range exprsOf(&p.Stmt) {
		want := "0.3"
		if i == 0 || i == 2 {
			want = "0.0"
		}
		if err != api.OK || places(*x) != want {
			t.Errorf("%d: %d %s; not %s", i, err, places(*x), want)
		}
	}
	if places(e) != "0.0" {
		t.Error("what was handed in has places")
	}
	for i := range lists(&p) {
		p, _ := check.Check(made(t, setup), s)
		all := lists(&p)
		var held []string
		for _, l := range all {
			held = append(held, l.holds())
		}
		all[i].spoil()
		for j, l := range all {
			if i != j && l.holds() != held[j] {
				t.Errorf("%s and %s share their memory", all[i].name, l.name)
			}
		}
	}
	// Lists of which one is the beginning of the other, so that the room behind it counts.
	long := expr(t, "c AND t.c")
	s = api.Stmt{Kind: 6, Table: "t", Items: []api.Item{{Kind: 1, Expr: api.Expr{Nodes: long.Nodes[:1]}}, {Kind: 1, Expr: api.Expr{Nodes: long.Nodes[:2]}}}, Where: long, Limit: -1}
	p, err = check.Check(made(t, setup), s)
	if err != api.OK || places(p.Stmt.Items[0].Expr) != "0.2" || places(p.Stmt.Items[1].Expr) != "0.2 0.2" || places(p.Stmt.Where) != "0.2 0.2" || places(long) != "0.0 0.0" {
		t.Errorf("%d %s", err, said(p))
	}
}

// R5: the same arguments have the same answers, whatever was asked between.
func TestSameAnswers(t *testing.T) {
	c := chance(22)
	type asked struct {
		store api.Store
		s     api.Stmt
		p     string
		err   api.Errno
	}
	var all []asked
	for range 2000 {
		m := maker{chance: &c, store: c.store(), wrong: 100}
		s := m.stmt()
		p, err := check.Check(m.store, s)
		all = append(all, asked{m.store, s, said(p), err})
	}
	for _, x := range slices.Backward(all) {
		if p, err := check.Check(x.store, x.s); err != x.err || said(p) != x.p {
			t.Fatalf("%+v: %d %s; not %d %s", x.s, err, said(p), x.err, x.p)
		}
	}
}

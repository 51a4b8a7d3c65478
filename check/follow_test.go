package check_test

import (
	"slices"
	"testing"

	"tallyhouse/api"
	"tallyhouse/check"
	"tallyhouse/parse"
	"tallyhouse/table"
	"tallyhouse/value"
)

// bare is a statement without the places of its columns.
func bare(s api.Stmt) api.Stmt {
	s.Sets, s.Items = slices.Clone(s.Sets), slices.Clone(s.Items)
	for _, e := range exprsOf(&s) {
		e.Nodes = slices.Clone(e.Nodes)
		for i := range e.Nodes {
			if e.Nodes[i].Kind == api.ExColumn {
				e.Nodes[i].A, e.Nodes[i].B = 0, 0
			}
		}
	}
	return s
}

// P13.3: a plan's statement is the statement but for the places; it has the same plan, as what is checked twice has.
func TestPlanOfPlan(t *testing.T) {
	c := chance(11)
	right := 0
	for range 12000 {
		m := maker{chance: &c, store: c.store(), wrong: 300}
		s := m.stmt()
		if c.oneIn(3) {
			c.spoil(&s)
		}
		p, err := check.Check(m.store, s)
		again, twice := check.Check(m.store, s)
		if twice != err || !same(again, p) {
			t.Fatalf("%+v: %d %s, then %d %s", s, err, said(p), twice, said(again))
		}
		if err != api.OK {
			continue
		}
		right++
		if !parse.Same(bare(p.Stmt), bare(s)) {
			t.Fatalf("%+v: %s", s, said(p))
		}
		if again, err := check.Check(m.store, p.Stmt); err != api.OK || !same(again, p) {
			t.Fatalf("%+v: %s; the plan's own: %d %s", s, said(p), err, said(again))
		}
	}
	if right < 6000 {
		t.Error(right)
	}
}

// counting are the expressions of an UPDATE, a DELETE or a SELECT that count.
func counting(s *api.Stmt) []*api.Expr {
	out := []*api.Expr{&s.Where}
	if s.Kind == 6 && s.Join != "" {
		out = append(out, &s.On)
	}
	for i := range s.Sets {
		out = append(out, &s.Sets[i].Expr)
	}
	for i := range s.Items {
		if !s.Star && s.Items[i].Kind != 2 {
			out = append(out, &s.Items[i].Expr)
		}
	}
	return out
}

// P13.3: places are those of columns of that Name, in a table of that name.
func TestPlacesAreOfTheName(t *testing.T) {
	c := chance(12)
	columns := 0
	for range 12000 {
		m := maker{chance: &c, store: c.store(), wrong: 1000}
		s := m.stmt()
		p, err := check.Check(m.store, s)
		if err != api.OK || s.Kind < 4 {
			continue
		}
		from := []string{s.Table, s.Join}
		for _, e := range counting(&p.Stmt) {
			for _, n := range e.Nodes {
				if n.Kind != api.ExColumn {
					continue
				}
				of, there := table.Find(m.store, from[n.A])
				if !there || of.Columns[n.B].Name != n.Name || n.Table != "" && n.Table != of.Name {
					t.Fatalf("%+v: %+v", s, n)
				}
				columns++
			}
		}
	}
	if columns < 10000 {
		t.Error(columns)
	}
}

// P13.3: rows that change alone change nothing, neither a plan nor an error.
func TestRowsDoNotMatter(t *testing.T) {
	c := chance(13)
	met := map[api.Errno]int{}
	for range 6000 {
		empty := c.store()
		filled := c.fill(empty)
		if err := table.Check(filled); err != api.OK {
			t.Fatalf("these tables are to be some that may be: %+v", filled)
		}
		m := maker{chance: &c, store: empty, wrong: 60}
		s := m.stmt()
		p, err := check.Check(empty, s)
		met[err]++
		for _, store := range []api.Store{filled, c.fill(empty), changed(t, &c, filled)} {
			if got, other := check.Check(store, s); other != err || !same(got, p) {
				t.Fatalf("%+v: %d %s; with rows %d %s", s, err, said(p), other, said(got))
			}
		}
	}
	if met[api.OK] < 2000 || len(met) < 8 {
		t.Error(met)
	}
}

// changed is tables from one of which a row has gone, and another one is empty.
func changed(t *testing.T, c *chance, s api.Store) api.Store {
	t.Helper()
	if len(s.Tables) == 0 {
		return s
	}
	x := s.Tables[c.pick(len(s.Tables))]
	var err api.Errno
	if len(x.Rows) > 0 {
		s, _, err = table.Delete(s, x.Name, []api.Value{x.Rows[c.pick(len(x.Rows))][keyOf(x)], value.Null()})
	}
	if err == api.OK {
		s, err = table.Replace(s, s.Tables[c.pick(len(s.Tables))].Name, nil)
	}
	if err != api.OK {
		t.Fatal(err)
	}
	return s
}

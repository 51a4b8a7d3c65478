package check_test

import (
	"slices"
	"testing"

	"tallyhouse/api"
	"tallyhouse/check"
)

// P13.2: statements by chance against tables by chance, most of them right, or wrong at one place; each error is met.
func TestByChance(t *testing.T) {
	c := chance(1)
	met := map[api.Errno]int{}
	right := map[int]int{}
	for range 60000 {
		m := maker{chance: &c, store: c.store(), wrong: []int{15, 80, 1000}[c.pick(3)]}
		for range 3 {
			s := m.stmt()
			if check.May(s) != modelMay(s) {
				t.Fatalf("May: %t of %+v", check.May(s), s)
			}
			err := answers(t, "by chance", m.store, s)
			met[err]++
			if err == api.OK {
				right[s.Kind]++
			}
		}
		if t.Failed() {
			t.FailNow()
		}
	}
	for _, err := range []api.Errno{api.ErrNone, api.ErrFull, api.ErrColumn, api.ErrTwice, api.ErrTypes, api.ErrCount, api.ErrKeys, api.ErrGroup} {
		if met[err] < 300 {
			t.Errorf("%d times %d", met[err], err)
		}
	}
	for kind := 1; kind <= 6; kind++ {
		if right[kind] < 3000 {
			t.Errorf("%d of Kind %d are right", right[kind], kind)
		}
	}
}

// exprsOf are all expressions of a statement, those that do not count, too.
func exprsOf(s *api.Stmt) []*api.Expr {
	out := []*api.Expr{&s.On, &s.Where}
	for i := range s.Sets {
		out = append(out, &s.Sets[i].Expr)
	}
	for i := range s.Items {
		out = append(out, &s.Items[i].Expr)
	}
	return out
}

// spoilExpr makes something of an expression another one.
func (c *chance) spoilExpr(e *api.Expr) {
	if len(e.Nodes) == 0 || c.oneIn(9) {
		e.Nodes = []api.Node{{Kind: c.pick(12), Value: api.Value{Kind: c.pick(6)}}}[:c.pick(2)]
		return
	}
	n := &e.Nodes[c.pick(len(e.Nodes))]
	switch c.pick(6) {
	case 0:
		n.Kind = c.pick(13) - 1
	case 1:
		n.Op = c.pick(9) - 1
	case 2:
		n.A = c.pick(len(e.Nodes)+2) - 1
	case 3:
		n.B = c.pick(len(e.Nodes)+2) - 1
	case 4:
		n.Value = api.Value{Kind: c.pick(6), Num: int64(c.pick(3)), Text: c.among("", "", "x")}
	default:
		n.Table, n.Name = c.among("", "t", "u"), c.among("a", "c", "zz")
	}
}

// spoil makes something of a statement another one.
func (c *chance) spoil(s *api.Stmt) {
	switch c.pick(12) {
	case 0:
		s.Kind = c.pick(9) - 1
	case 1:
		s.Limit = c.pick(5) - 3
	case 2:
		s.Star = !s.Star
	case 3:
		s.Join = c.among("", "t", "u", "none")
	case 4:
		s.Table = c.among("", "t", "u", "none")
	case 5:
		s.Items = append(s.Items, api.Item{Kind: c.pick(5)})
	case 6:
		if len(s.Items) > 0 {
			s.Items[c.pick(len(s.Items))].Kind = c.pick(5)
		}
	case 7:
		s.Sets, s.Items, s.Columns = s.Sets[:c.pick(len(s.Sets)+1)], s.Items[:c.pick(len(s.Items)+1)], s.Columns[:c.pick(len(s.Columns)+1)]
	case 8:
		s.Group, s.Order = s.Order, s.Group
	default:
		all := exprsOf(s)
		c.spoilExpr(all[c.pick(len(all))])
	}
}

// P13.1, P13.2: statements of which anything is made another one.
func TestSpoiltByChance(t *testing.T) {
	c := chance(2)
	met := map[api.Errno]int{}
	for range 60000 {
		m := maker{chance: &c, store: c.store(), wrong: 1000}
		s := m.stmt()
		for range 1 + c.pick(3) {
			c.spoil(&s)
		}
		may := check.May(s)
		if may != modelMay(s) {
			t.Fatalf("May: %t of %+v", may, s)
		}
		err := answers(t, "spoilt", m.store, s)
		if (err == api.ErrStmt) == may {
			t.Errorf("%d, though May tells %t of %+v", err, may, s)
		}
		met[err]++
		if t.Failed() {
			t.FailNow()
		}
	}
	for _, err := range []api.Errno{api.OK, api.ErrStmt, api.ErrNone, api.ErrColumn, api.ErrTypes, api.ErrCount, api.ErrTwice, api.ErrGroup} {
		if met[err] < 100 {
			t.Errorf("%d times %d", met[err], err)
		}
	}
}

// P13.2: tables of which anything is made another one.
func TestSpoiltTablesByChance(t *testing.T) {
	c := chance(3)
	met := map[api.Errno]int{}
	for range 20000 {
		m := maker{chance: &c, store: c.store(), wrong: 100}
		s := m.stmt()
		if c.oneIn(4) {
			c.spoil(&s)
		}
		store := api.Store{Tables: slices.Clone(m.store.Tables)}
		if len(store.Tables) > 0 {
			x := &store.Tables[c.pick(len(store.Tables))]
			x.Columns = slices.Clone(x.Columns)
			column := &x.Columns[c.pick(len(x.Columns))]
			switch c.pick(5) {
			case 0:
				x.Name = c.among("", "t", "u", "v", "w")
			case 1:
				column.Name = c.among("", "a", "b", "c", "zz")
			case 2:
				column.Type = c.pick(6)
			case 3:
				column.Key = !column.Key
			default:
				column.NotNull = !column.NotNull
			}
		}
		met[answers(t, "tables", store, s)]++
		if t.Failed() {
			t.FailNow()
		}
	}
	if met[api.ErrStore] < 5000 || met[api.OK] < 2000 {
		t.Error(met)
	}
}

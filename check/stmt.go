package check

import (
	"slices"

	"tallyhouse/api"
	"tallyhouse/table"
)

func (c *checker) create() {
	l := c.Stmt.Columns
	refuse(len(l) > api.MaxColumns, api.ErrFull)
	met := map[string]int{}
	keys := 0
	for _, d := range l {
		met[d.Name]++
		if d.Key {
			keys++
		}
	}
	refuse(len(met) < len(l), api.ErrTwice)
	refuse(keys != 1, api.ErrKeys)
}

func (c *checker) drop() {
	c.find(c.Stmt.Table)
}

// insert takes the table for none whose columns may be meant.
func (c *checker) insert() {
	t := c.find(c.Stmt.Table)
	refuse(len(c.Stmt.Sets) != len(t.Columns), api.ErrCount)
	for i, s := range c.Stmt.Sets {
		want(t.Columns[i].Type, c.expr(s.Expr))
	}
}

func (c *checker) update() {
	t := c.from(c.Stmt.Table)
	for i, s := range c.Stmt.Sets {
		at, there := table.Column(t, s.Name)
		refuse(!there, api.ErrColumn)
		refuse(t.Columns[at].Key, api.ErrKeys)
		refuse(sets(c.Stmt.Sets[:i], s.Name), api.ErrTwice)
		want(t.Columns[at].Type, c.expr(s.Expr))
	}
	c.takes(c.Stmt.Where)
}

// sets tells whether one of these sets that column.
func sets(l []api.Set, name string) bool {
	return slices.ContainsFunc(l, func(s api.Set) bool { return s.Name == name })
}

// remove checks a DELETE.
func (c *checker) remove() {
	c.from(c.Stmt.Table)
	c.takes(c.Stmt.Where)
}

// choose checks a SELECT.
func (c *checker) choose() {
	s := c.Stmt
	c.from(s.Table)
	if s.Join != "" {
		c.from(s.Join)
		refuse(s.Join == s.Table, api.ErrTwice)
		c.takes(s.On)
	}
	c.takes(s.Where)
	c.Group = c.ref(s.Group)
	c.tell()
	c.Order = c.ref(s.Order)
	c.gather()
}

// find is the table of that name.
func (c *checker) find(name string) api.Table {
	t, there := table.Find(c.store, name)
	refuse(!there, api.ErrNone)
	return t
}

// from is the table of that name, too, whose columns may be meant from now on.
func (c *checker) from(name string) api.Table {
	t := c.find(name)
	c.tables = append(c.tables, t)
	return t
}

// takes checks an expression by which rows are taken, if there is one.
func (c *checker) takes(e api.Expr) {
	if len(e.Nodes) > 0 {
		want(api.ValBool, c.expr(e))
	}
}

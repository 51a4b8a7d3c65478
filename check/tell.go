package check

import (
	"slices"

	"tallyhouse/api"
)

// items are those that count: beside Star none does.
func (c *checker) items() []api.Item {
	if c.Stmt.Star {
		return nil
	}
	return c.Stmt.Items
}

// tell finds the types of what a SELECT tells.
func (c *checker) tell() {
	if c.Stmt.Star {
		for _, d := range c.columns() {
			c.Types = append(c.Types, d.Type)
		}
	}
	for _, i := range c.items() {
		c.Types = append(c.Types, c.item(i))
	}
}

// item checks an item, and is the type of what it tells.
func (c *checker) item(i api.Item) int {
	switch i.Kind {
	case api.ItExpr:
		return c.expr(i.Expr)
	case api.ItSum:
		want(api.ValInt, c.expr(i.Expr))
	}
	return api.ValInt
}

// gather finds whether one row is told of all, and refuses what there is neither of a row, nor of a group, nor of all rows.
func (c *checker) gather() {
	grouped, ordered := c.Group != nowhere(), c.Order != nowhere()
	single := slices.ContainsFunc(c.items(), isExpr)
	gathers := slices.ContainsFunc(c.items(), func(i api.Item) bool { return !isExpr(i) })
	unlike := slices.ContainsFunc(c.items(), func(i api.Item) bool { return isExpr(i) && !isJust(i.Expr, c.Group) })
	c.Many = gathers && !grouped
	refuse(grouped && c.Stmt.Star, api.ErrGroup)
	refuse(grouped && unlike, api.ErrGroup)
	refuse(c.Many && single, api.ErrGroup)
	refuse(grouped && ordered && c.Order != c.Group, api.ErrGroup)
	refuse(c.Many && ordered, api.ErrGroup)
}

func isExpr(i api.Item) bool {
	return i.Kind == api.ItExpr
}

// isJust tells whether an expression whose columns are known is the column at that place, and nothing beside it.
func isJust(e api.Expr, place api.Place) bool {
	n := e.Nodes[0]
	return len(e.Nodes) == 1 && n.Kind == api.ExColumn && api.Place{Table: n.A, Column: n.B} == place
}

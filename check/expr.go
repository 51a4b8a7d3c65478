package check

import "tallyhouse/api"

// expr checks an expression node by node, puts the places of columns into it, and is its type.
func (c *checker) expr(e api.Expr) int {
	types := make([]int, len(e.Nodes))
	for i := range e.Nodes {
		types[i] = c.node(&e.Nodes[i], types)
	}
	return types[len(types)-1]
}

// node is the type of a node; those of the nodes ahead of it stand in types.
func (c *checker) node(n *api.Node, types []int) int {
	switch n.Kind {
	case api.ExValue:
		return n.Value.Kind
	case api.ExColumn:
		place, d := c.column(api.Ref{Table: n.Table, Name: n.Name})
		n.A, n.B = place.Table, place.Column
		return d.Type
	case api.ExNot:
		want(api.ValBool, types[n.A])
	case api.ExAnd, api.ExOr:
		want(api.ValBool, types[n.A], types[n.B])
	case api.ExTest:
		wantTest(n.Op, types[n.A], types[n.B])
	case api.ExMinus:
		want(api.ValInt, types[n.A])
		return api.ValInt
	case api.ExReckon:
		want(api.ValInt, types[n.A], types[n.B])
		return api.ValInt
	}
	return api.ValBool
}

// want refuses types that are neither that one nor the one of null.
func want(one int, types ...int) {
	for _, t := range types {
		refuse(t != one && t != api.ValNull, api.ErrTypes)
	}
}

// wantTest refuses types that a test of that Op does not take: bools are alike or not, but none is less, not even than null.
func wantTest(op, a, b int) {
	refuse(a != b && a != api.ValNull && b != api.ValNull, api.ErrTypes)
	ranks := op != api.OpEq && op != api.OpNe
	refuse(ranks && (a == api.ValBool || b == api.ValBool), api.ErrTypes)
}

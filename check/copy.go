package check

import (
	"slices"
	"strings"

	"tallyhouse/api"
)

// copied is a list of its own, of what own makes of each one.
func copied[T any](l []T, own func(T) T) []T {
	out := slices.Clone(l)
	for i, x := range out {
		out[i] = own(x)
	}
	return out
}

// copyStmt copies what does not count, too: it stays as it is.
func copyStmt(s api.Stmt) api.Stmt {
	s.Table, s.Join = strings.Clone(s.Table), strings.Clone(s.Join)
	s.Columns = copied(s.Columns, copyColumn)
	s.Sets = copied(s.Sets, copySet)
	s.Items = copied(s.Items, copyItem)
	s.On, s.Where = copyExpr(s.On), copyExpr(s.Where)
	s.Group, s.Order = copyRef(s.Group), copyRef(s.Order)
	return s
}

func copyColumn(d api.Defined) api.Defined {
	d.Name = strings.Clone(d.Name)
	return d
}

func copySet(s api.Set) api.Set {
	return api.Set{Name: strings.Clone(s.Name), Expr: copyExpr(s.Expr)}
}

func copyItem(i api.Item) api.Item {
	i.Expr = copyExpr(i.Expr)
	return i
}

func copyExpr(e api.Expr) api.Expr {
	return api.Expr{Nodes: copied(e.Nodes, copyNode)}
}

func copyNode(n api.Node) api.Node {
	n.Table, n.Name, n.Value.Text = strings.Clone(n.Table), strings.Clone(n.Name), strings.Clone(n.Value.Text)
	return n
}

func copyRef(r api.Ref) api.Ref {
	return api.Ref{Table: strings.Clone(r.Table), Name: strings.Clone(r.Name)}
}

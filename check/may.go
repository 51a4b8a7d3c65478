package check

import (
	"tallyhouse/api"
	"tallyhouse/value"
)

// noLimit is the least Limit.
const noLimit = -1

// May: P13.1.
func May(s api.Stmt) bool {
	return mayParts(s) && mayOn(s) && s.Limit >= noLimit
}

// mayParts asks what is asked of some Kinds alone. No Kinds are named of On and of Limit, so each one is asked for these.
func mayParts(s api.Stmt) bool {
	switch s.Kind {
	case api.StCreate:
		return few(s.Columns)
	case api.StDrop:
		return true
	case api.StInsert:
		return maySets(s)
	case api.StUpdate:
		return maySets(s) && mayWhere(s)
	case api.StDelete:
		return mayWhere(s)
	case api.StSelect:
		return mayItems(s) && mayWhere(s)
	}
	return false
}

func maySets(s api.Stmt) bool {
	return few(s.Sets) && all(s.Sets, maySet)
}

func mayItems(s api.Stmt) bool {
	return s.Star || few(s.Items) && all(s.Items, mayItem)
}

func mayWhere(s api.Stmt) bool {
	return len(s.Where.Nodes) == 0 || mayExpr(s.Where)
}

func mayOn(s api.Stmt) bool {
	return s.Join == "" || mayExpr(s.On)
}

// few tells whether there is one at least, and no more than a text has tokens.
func few[T any](l []T) bool {
	return within(len(l), 1, api.MaxToks)
}

func within(n, least, greatest int) bool {
	return n >= least && n <= greatest
}

func all[T any](l []T, may func(at int, x T) bool) bool {
	for at, x := range l {
		if !may(at, x) {
			return false
		}
	}
	return true
}

func maySet(_ int, s api.Set) bool {
	return mayExpr(s.Expr)
}

// mayItem asks nothing of a COUNT but its Kind: it has no expression that counts.
func mayItem(_ int, i api.Item) bool {
	switch i.Kind {
	case api.ItExpr, api.ItSum:
		return mayExpr(i.Expr)
	case api.ItCount:
		return true
	}
	return false
}

func mayExpr(e api.Expr) bool {
	return few(e.Nodes) && all(e.Nodes, mayNode)
}

// mayNode tells whether a node may stand at that place.
func mayNode(at int, n api.Node) bool {
	one := within(n.A, 0, at-1)
	two := one && within(n.B, 0, at-1)
	switch n.Kind {
	case api.ExValue:
		return value.Check(n.Value) == api.OK
	case api.ExColumn:
		return true
	case api.ExNot, api.ExMinus, api.ExNull, api.ExNotNull:
		return one
	case api.ExAnd, api.ExOr:
		return two
	case api.ExTest:
		return two && within(n.Op, api.OpEq, api.OpGe)
	case api.ExReckon:
		return two && within(n.Op, api.OpAdd, api.OpRem)
	}
	return false
}

package parse

import (
	"strconv"
	"strings"

	"tallyhouse/api"
	"tallyhouse/lex"
)

// Print: P11.2.
func Print(s api.Stmt) string {
	w := writer{ops: ops()}
	w.stmt(s)
	return w.text.String()
}

// writer writes tokens, one blank between each two.
type writer struct {
	text strings.Builder
	ops  map[string]op
}

// words writes these tokens.
func (w *writer) words(all ...string) {
	for _, word := range all {
		if w.text.Len() > 0 {
			w.text.WriteByte(' ')
		}
		w.text.WriteString(word)
	}
}

// list writes what each writes, for each number below many, with commas between.
func (w *writer) list(many int, each func(i int)) {
	for i := range many {
		if i > 0 {
			w.words(",")
		}
		each(i)
	}
}

func (w *writer) stmt(s api.Stmt) {
	switch s.Kind {
	case api.StCreate:
		w.words("CREATE", "TABLE", s.Table, "(")
		w.list(len(s.Columns), func(i int) { w.column(s.Columns[i]) })
		w.words(")")
	case api.StDrop:
		w.words("DROP", "TABLE", s.Table)
	case api.StInsert:
		w.words("INSERT", "INTO", s.Table, "VALUES", "(")
		w.list(len(s.Sets), func(i int) { w.expr(s.Sets[i].Expr) })
		w.words(")")
	case api.StUpdate:
		w.words("UPDATE", s.Table, "SET")
		w.list(len(s.Sets), func(i int) {
			w.words(s.Sets[i].Name, "=")
			w.expr(s.Sets[i].Expr)
		})
		w.where(s)
	case api.StDelete:
		w.words("DELETE", "FROM", s.Table)
		w.where(s)
	case api.StSelect:
		w.choose(s)
	}
}

func (w *writer) column(c api.Defined) {
	w.words(c.Name)
	if c.Type >= 0 && c.Type < len(typeWords) {
		w.words(typeWords[c.Type])
	}
	switch {
	case c.Key:
		w.words("PRIMARY", "KEY")
	case c.NotNull:
		w.words("NOT", "NULL")
	}
}

// choose writes a SELECT.
func (w *writer) choose(s api.Stmt) {
	w.words("SELECT")
	if s.Star {
		w.words("*")
	} else {
		w.list(len(s.Items), func(i int) { w.item(s.Items[i]) })
	}
	w.words("FROM", s.Table)
	if s.Join != "" {
		w.words("INNER", "JOIN", s.Join, "ON")
		w.expr(s.On)
	}
	w.where(s)
	if s.Group != (api.Ref{}) {
		w.words("GROUP", "BY")
		w.ref(s.Group)
	}
	if s.Order != (api.Ref{}) {
		w.words("ORDER", "BY")
		w.ref(s.Order)
		if s.Desc {
			w.words("DESC")
		}
	}
	if s.Limit > noLimit {
		w.words("LIMIT", strconv.Itoa(s.Limit))
	}
}

func (w *writer) item(i api.Item) {
	switch i.Kind {
	case api.ItExpr:
		w.expr(i.Expr)
	case api.ItCount:
		w.words("COUNT", "(", "*", ")")
	case api.ItSum:
		w.words("SUM", "(")
		w.expr(i.Expr)
		w.words(")")
	}
}

func (w *writer) where(s api.Stmt) {
	if len(s.Where.Nodes) > 0 {
		w.words("WHERE")
		w.expr(s.Where)
	}
}

// ref writes a column.
func (w *writer) ref(r api.Ref) {
	if r.Table != "" {
		w.words(r.Table, ".")
	}
	w.words(r.Name)
}

func (w *writer) expr(e api.Expr) {
	w.row(e.Nodes, len(e.Nodes)-1, len(e.Nodes))
}

// row writes the row at a place, if that is ahead of the one that it is a part of: rows that other programs make might have no end else.
func (w *writer) row(nodes []api.Node, at, ahead int) {
	if at < 0 || at >= ahead {
		return
	}
	n := nodes[at]
	switch n.Kind {
	case api.ExValue:
		w.value(n.Value)
	case api.ExColumn:
		w.ref(api.Ref{Table: n.Table, Name: n.Name})
	default:
		w.words("(")
		w.inner(nodes, at)
		w.words(")")
	}
}

// inner writes what stands in the brackets of the row at a place.
func (w *writer) inner(nodes []api.Node, at int) {
	n := nodes[at]
	switch n.Kind {
	case api.ExNot:
		w.words("NOT")
		w.row(nodes, n.A, at)
	case api.ExMinus:
		w.words("-")
		w.row(nodes, n.A, at)
	case api.ExNull:
		w.row(nodes, n.A, at)
		w.words("IS", "NULL")
	case api.ExNotNull:
		w.row(nodes, n.A, at)
		w.words("IS", "NOT", "NULL")
	case api.ExAnd, api.ExOr, api.ExTest, api.ExReckon:
		w.row(nodes, n.A, at)
		w.words(w.between(n))
		w.row(nodes, n.B, at)
	}
}

// between is the op of a row of two; of a kind that has one alone, whatever its Op is.
func (w *writer) between(n api.Node) string {
	switch n.Kind {
	case api.ExAnd:
		return "AND"
	case api.ExOr:
		return "OR"
	}
	for word, o := range w.ops {
		if o.kind == n.Kind && o.number == n.Op {
			return word
		}
	}
	return ""
}

// value writes a value; one below 0 as its size and a sign, since no token is below 0.
func (w *writer) value(v api.Value) {
	switch {
	case v.Kind == api.ValNull:
		w.words("NULL")
	case v.Kind == api.ValBool && v.Num != 0:
		w.words("TRUE")
	case v.Kind == api.ValBool:
		w.words("FALSE")
	case v.Kind == api.ValInt && v.Num < 0:
		w.words("(", "-", strconv.FormatUint(-uint64(v.Num), 10), ")")
	case v.Kind == api.ValInt:
		w.words(strconv.FormatInt(v.Num, 10))
	case v.Kind == api.ValText:
		w.words(lex.Quote(v.Text))
	}
}

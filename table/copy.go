package table

import (
	"strings"

	"tallyhouse/api"
)

// copied is a list of its own, of what own makes of each one.
func copied[T any](l []T, own func(T) T) []T {
	out := make([]T, len(l))
	copy(out, l)
	for i, x := range out {
		out[i] = own(x)
	}
	return out
}

func copyTable(t api.Table) api.Table {
	t.Name = strings.Clone(t.Name)
	t.Columns = copied(t.Columns, copyColumn)
	t.Rows = copied(t.Rows, copyRow)
	return t
}

func copyColumn(c api.Defined) api.Defined {
	c.Name = strings.Clone(c.Name)
	return c
}

func copyRow(row []api.Value) []api.Value {
	return copied(row, copyValue)
}

func copyValue(v api.Value) api.Value {
	v.Text = strings.Clone(v.Text)
	return v
}

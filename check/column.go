package check

import (
	"iter"

	"tallyhouse/api"
)

// columns tells all columns that may be meant, with their places, in order.
func (c *checker) columns() iter.Seq2[api.Place, api.Defined] {
	return func(yield func(api.Place, api.Defined) bool) {
		for i, t := range c.tables {
			for j, d := range t.Columns {
				if !yield(api.Place{Table: i, Column: j}, d) {
					return
				}
			}
		}
	}
}

// meant tells those of them that have the Name, and are of the Table, if one is said.
func (c *checker) meant(r api.Ref) iter.Seq2[api.Place, api.Defined] {
	return func(yield func(api.Place, api.Defined) bool) {
		for place, d := range c.columns() {
			is := d.Name == r.Name && (r.Table == "" || r.Table == c.tables[place.Table].Name)
			if is && !yield(place, d) {
				return
			}
		}
	}
}

// column is the one column that is meant, and its place.
func (c *checker) column(r api.Ref) (api.Place, api.Defined) {
	var place api.Place
	var column api.Defined
	many := 0
	for p, d := range c.meant(r) {
		place, column = p, d
		many++
	}
	refuse(many == 0, api.ErrColumn)
	refuse(many > 1, api.ErrTwice)
	return place, column
}

// ref is the place of a column that a statement may name.
func (c *checker) ref(r api.Ref) api.Place {
	if r == (api.Ref{}) {
		return nowhere()
	}
	place, _ := c.column(r)
	return place
}

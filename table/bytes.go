package table

import (
	"cmp"

	"tallyhouse/api"
	"tallyhouse/octet"
	"tallyhouse/value"
)

// Encode: P12.6.
func Encode(s api.Store) ([]byte, api.Errno) {
	if err := Check(s); err != api.OK {
		return nil, err
	}
	b := []byte{byte(len(s.Tables))}
	for _, t := range s.Tables {
		b = putColumns(putName(b, t.Name), t.Columns)
		b = append(b, byte(len(t.Rows)))
		for _, row := range t.Rows {
			b = append(b, RowBytes(row)...)
		}
	}
	return b, api.OK
}

// Decode: P12.6. What was read is put as bytes again: these are not b, if b has bytes that no tables have, or goes on behind them.
func Decode(b []byte) (api.Store, api.Errno) {
	r := &reader{Reader: octet.Read(b), all: b}
	s := api.Store{Tables: list(r, r.U8(), r.table)}
	if err := r.Err(); err != api.OK {
		return api.Store{}, err
	}
	again, err := Encode(s)
	if err != api.OK || !octet.Equal(again, b) {
		return api.Store{}, api.ErrStore
	}
	return s, api.OK
}

// reader reads what counts say, whether it may be or not. It keeps the bytes, too, as value.Decode asks for them, and the error that this told.
type reader struct {
	*octet.Reader
	all   []byte
	wrong api.Errno
}

// Err is the first error: behind one nothing more is read of a list.
func (r *reader) Err() api.Errno {
	return cmp.Or(r.wrong, r.Reader.Err())
}

// list reads so many.
func list[T any](r *reader, n byte, one func() T) []T {
	var l []T
	for range n {
		if r.Err() != api.OK {
			break
		}
		l = append(l, one())
	}
	return l
}

func (r *reader) table() api.Table {
	t := api.Table{Name: r.name()}
	t.Columns = list(r, r.U8(), r.column)
	t.Rows = list(r, r.U8(), func() []api.Value {
		return list(r, byte(len(t.Columns)), r.value)
	})
	return t
}

func (r *reader) name() string {
	return string(r.Raw(int(r.U8())))
}

func (r *reader) column() api.Defined {
	c := api.Defined{Name: r.name(), Type: int(r.U8())}
	m := r.U8()
	c.Key, c.NotNull = m == markKey, m == markNotNull
	return c
}

func (r *reader) value() api.Value {
	v, size, err := value.Decode(r.all[r.At():])
	switch err {
	case api.OK:
		r.Go(size)
	case api.ErrShort:
		r.wrong = api.ErrShort
	default:
		r.wrong = api.ErrStore
	}
	return v
}

package wal

import (
	"iter"

	"tallyhouse/api"
	"tallyhouse/octet"
)

// countSize is how many bytes of a sheet say how many it carries.
const countSize = 4

// sheets is what a log's sheets carry, the snapshot first.
type sheets [][]byte

// each goes over them by their numbers, the snapshot's is 0. What it tells is the log's own: it must not leave the package uncopied.
func (s sheets) each() iter.Seq2[int, []byte] {
	return func(yield func(int, []byte) bool) {
		for i, b := range s {
			if !yield(i, b) {
				return
			}
		}
	}
}

// Sectors: P4.1.
func Sectors(n int) int {
	if n < 0 || n > api.MaxTx {
		return 0
	}
	return (countSize + n + api.Sector - 1) / api.Sector
}

// sheet is the bytes of whole sectors that carry b.
func sheet(b []byte) []byte {
	out := make([]byte, Sectors(len(b))*api.Sector)
	copy(out, octet.Put32(nil, uint32(len(b))))
	copy(out[countSize:], b)
	return out
}

// cutAll cuts whole sectors into what their sheets carry; none, if they are not just sheets.
func cutAll(b []byte) sheets {
	var out sheets
	for len(b) > 0 {
		one, rest, ok := cut(b)
		if !ok {
			return nil
		}
		out = append(out, one)
		b = rest
	}
	return out
}

// cut is what the first sheet carries, and the sectors behind it. The room behind what it carries is cut off, as the next sheets stand there.
func cut(b []byte) ([]byte, []byte, bool) {
	n := int(octet.Read(b).U32())
	size := Sectors(n) * api.Sector
	if size == 0 || size > len(b) {
		return nil, nil, false
	}
	end := countSize + n
	noughts := b[end:size:size]
	if octet.Count(noughts, 0) != len(noughts) {
		return nil, nil, false
	}
	return b[countSize:end:end], b[size:len(b):len(b)], true
}

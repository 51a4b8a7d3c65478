package disk

import (
	"iter"

	"tallyhouse/api"
)

// write is a block that a sector is to have.
type write struct {
	sector int
	block  api.Block
}

// queue is writes in the order in which they were asked.
type queue []write

// fromEnd goes over the queue from its end on: the last write of its kind is the one that counts.
func (q queue) fromEnd() iter.Seq2[int, write] {
	return func(yield func(int, write) bool) {
		for i := len(q) - 1; i >= 0; i-- {
			if !yield(i, q[i]) {
				return
			}
		}
	}
}

// sectors is new memory, so that nobody outside holds a part of the queue.
func (q queue) sectors() []int {
	out := make([]int, len(q))
	for i, w := range q {
		out[i] = w.sector
	}
	return out
}

// outlasts tells of each place whether a crash by these answers does its write.
func (q queue) outlasts(keep []bool) func(place int) bool {
	kept := func(i int) bool { return i < len(keep) && keep[i] }
	last := q.last(kept)
	return func(i int) bool { return kept(i) || i <= last-api.Depth }
}

// last is the last place of which ok holds; -1, which nothing stands ahead of, if there is none.
func (q queue) last(ok func(place int) bool) int {
	for i := range q.fromEnd() {
		if ok(i) {
			return i
		}
	}
	return -1
}

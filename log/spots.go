package log

import (
	"iter"

	"tallyhouse/api"
)

// log is a log with what it can say. An offer is one, too, whose Base is prev; it has its spots alike, but may be where a log may not.
type log struct {
	api.Log
}

func offer(prev api.At, entries []api.Entry) log {
	return log{api.Log{Base: prev, Entries: entries}}
}

// spots tells each spot, and how many entries there are up to it.
func (l log) spots() iter.Seq2[int, api.At] {
	return func(yield func(int, api.At) bool) {
		at := l.Base
		if !yield(0, at) {
			return
		}
		for i, e := range l.Entries {
			at.Index, at.Term = at.Index+1, e.Term
			if !yield(i+1, at) {
				return
			}
		}
	}
}

// last is the end.
func (l log) last() api.At {
	var end api.At
	for _, at := range l.spots() {
		end = at
	}
	return end
}

// spot is the spot of that Index, and how many entries there are up to it.
func (l log) spot(index uint64) (int, api.At, api.Errno) {
	why := api.ErrLog
	if !l.mayBe() {
		goto refused
	}
	why = api.ErrNone
	for n, at := range l.spots() {
		if at.Index == index {
			return n, at, api.OK
		}
	}
refused:
	return 0, api.At{}, why
}

func (l log) has(at api.At) bool {
	_, own, why := l.spot(at.Index)
	return why == api.OK && own == at
}

package raft_test

import (
	"testing"

	"tallyhouse/api"
)

// installed is a server that has just installed what stands up to a place.
func installed(place api.At, members []int, rest ...api.Entry) func(r *api.Raft) {
	return func(r *api.Raft) {
		follows(r)
		r.Log, r.Conf, r.Commit = behind(place, rest...), of(members...), place.Index
	}
}

// P9.4: above Commit there is something to install: what stands behind the place stays, if the Log has it.
func TestSnapAboveCommit(t *testing.T) {
	r := led()
	e := r.Log.Entries
	all := but(r, commitNow(6))
	new1 := but(r, func(r *api.Raft) { r.Log, r.Commit = api.Log{}, 0 })
	var rows []row
	is := func(name string, r api.Raft, place api.At, rest ...api.Entry) {
		want := but(r, installed(place, []int{2, 4}, rest...))
		rows = append(rows, row{name: name, r: r, msg: snap(2, 5, place, 2, 4), want: want, sent: has(place), there: true})
	}
	is("just above Commit, a place that it has", r, at(5, 2), e[3])
	is("the last place that it has", r, at(6, 4))
	is("just above Commit, another Term", r, at(5, 4))
	is("just above Commit, a lesser Term", r, at(5, 1))
	is("the last index, another Term", r, at(6, 5))
	is("behind all", r, at(7, 4))
	is("far behind all", r, at(99, 5))
	is("the greatest index", r, at(top-1, 5))
	is("behind all that is settled", all, at(7, 5))
	is("at a new one", new1, at(1, 1))
	is("far away at a new one", new1, at(9, 5))
	is("one that stands", standing(), at(5, 2), e[3])
	is("one that knows no leader", waiting(), at(8, 5))
	changed := but(r, func(r *api.Raft) { r.Log.Entries[2], r.Log.Entries[3] = change(2, 1), change(4, 1, 5) })
	is("a change goes, another one stays", changed, at(5, 2), change(4, 1, 5))
	is("both go", changed, at(6, 4))
	take(t, rows)
	with := snap(2, 5, at(9, 5), 1, 2, 3)
	with.Data = []byte("what there is")
	take(t, []row{
		{name: "with Data", r: r, msg: with, want: but(r, installed(at(9, 5), []int{1, 2, 3})), sent: has(at(9, 5)), there: true},
		{name: "a Term above", r: leading(), msg: snap(2, 6, at(9, 6), 5), want: but(above(leading(), 6), installed(at(9, 6), []int{5})), sent: backs(appended(2, 6, true, at(9, 6))), there: true},
	})
}

// P9.4: at Commit and below there is nothing to install, whatever place it is; the place of Commit is sent back.
func TestSnapAtOrBelowCommit(t *testing.T) {
	var rows []row
	for _, place := range []api.At{at(4, 2), at(4, 1), at(4, 5), at(3, 1), at(3, 2), at(2, 1), at(2, 5), at(1, 1)} {
		for _, r := range []api.Raft{led(), waiting(), standing()} {
			rows = append(rows, row{name: "at " + said(place), r: r, msg: snap(2, 5, place, 2, 4), want: but(r, follows), sent: has(at(4, 2))})
		}
	}
	base := but(led(), commitNow(2))
	end := but(led(), commitNow(6))
	rows = append(rows,
		row{name: "Commit at the base", r: base, msg: snap(2, 5, at(2, 1), 2, 4), want: but(base, follows), sent: has(at(2, 1))},
		row{name: "below Commit at the base", r: base, msg: snap(2, 5, at(1, 1), 2, 4), want: but(base, follows), sent: has(at(2, 1))},
		row{name: "Commit at the end", r: end, msg: snap(2, 5, at(6, 5), 2, 4), want: but(end, follows), sent: has(at(6, 4))})
	take(t, rows)
}

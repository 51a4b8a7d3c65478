package raft_test

import (
	"testing"

	"tallyhouse/api"
	"tallyhouse/raft"
)

// P9.2: a follower with these fields, Commit at the base, all others zero.
func TestStart(t *testing.T) {
	logs := []api.Log{
		{}, behind(at(0, 0), commands(1, 2)...), behind(at(2, 1)), behind(at(2, 1), commands(1, 4)...), behind(at(7, 3), alike(16, 4)...),
		behind(at(1, 1), change(1, 3), change(4, 2, 3), none(4)), behind(at(top-1, 4)),
	}
	for _, l := range logs {
		for me := 1; me <= 5; me++ {
			for vote := range 6 {
				for _, limit := range []int{4, 5, 15, 16} {
					for _, term := range []uint64{4, 5, 1 << 62} {
						want := api.Raft{Me: me, Term: term, Vote: vote, Log: l, Conf: of(2, 3), Commit: l.Base.Index, Role: 1, Limit: limit}
						r, err := raft.Start(me, term, vote, l, of(2, 3), limit)
						if err != api.OK || said(r) != said(want) || raft.Check(r) != api.OK {
							t.Fatalf("Start: %s %d, not %s", said(r), err, said(want))
						}
					}
				}
			}
		}
	}
	r, err := raft.Start(5, 0, 3, api.Log{}, of(1), 16)
	if err != api.OK || said(r) != said(api.Raft{Me: 5, Vote: 3, Conf: of(1), Role: 1, Limit: 16}) {
		t.Errorf("a new one: %s %d", said(r), err)
	}
}

// P9.2: the members in force are what the last EntConf says, whatever Commit is; Conf, if there is none.
func TestForce(t *testing.T) {
	for name, r := range roles() {
		for _, q := range []struct {
			what string
			do   func(r *api.Raft)
			want []int
		}{
			{"no change", func(r *api.Raft) {}, []int{1, 2, 3}},
			{"Conf of others", func(r *api.Raft) { r.Conf = of(2, 4, 5) }, []int{2, 4, 5}},
			{"a change that is settled", func(r *api.Raft) { r.Log.Entries[0] = change(1, 1, 2) }, []int{1, 2}},
			{"a change at Commit", func(r *api.Raft) { r.Log.Entries[1] = change(2, 1, 2) }, []int{1, 2}},
			{"a change above Commit", func(r *api.Raft) { r.Log.Entries[2] = change(2, 5) }, []int{5}},
			{"the last entry", func(r *api.Raft) { r.Log.Entries[3] = change(4, 1, 2, 3, 4, 5) }, []int{1, 2, 3, 4, 5}},
			{"two changes", func(r *api.Raft) { r.Log.Entries[1], r.Log.Entries[3] = change(2, 1), change(4, 1, 4) }, []int{1, 4}},
			{"back again", func(r *api.Raft) { r.Log.Entries[1], r.Log.Entries[3] = change(2, 1), change(4, 1, 2, 3) }, []int{1, 2, 3}},
			{"a command that looks like one", func(r *api.Raft) { r.Log.Entries[3].Data = says(1, 2) }, []int{1, 2, 3}},
		} {
			c, err := raft.Force(but(r, q.do))
			if err != api.OK || said(c) != said(of(q.want...)) {
				t.Errorf("Force of one %s, %s: %v %d", name, q.what, c, err)
			}
		}
	}
	full := but(waiting(), func(r *api.Raft) { r.Log = behind(at(top-2, 4), change(4, 3)); r.Commit = top - 2 })
	if c, err := raft.Force(full); err != api.OK || said(c) != said(of(3)) {
		t.Errorf("Force at the last index: %v %d", c, err)
	}
}

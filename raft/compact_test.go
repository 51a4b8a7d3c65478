package raft_test

import (
	"testing"

	"tallyhouse/api"
	"tallyhouse/raft"
)

// P9.6: ErrArg below the base, and above Commit.
func TestCompactOutside(t *testing.T) {
	for name, r := range roles() {
		for _, q := range []struct {
			r    api.Raft
			from uint64
			to   uint64
		}{{r, 2, 4}, {but(r, commitNow(2)), 2, 2}, {but(r, commitNow(6)), 2, 6}} {
			for _, index := range []uint64{0, 1, 2, 3, 4, 5, 6, 7, 8, 1 << 63, top - 1, top} {
				out, err := raft.Compact(q.r, index)
				right := index >= q.from && index <= q.to
				if right && err != api.OK || !right && (err != api.ErrArg || said(out) != said(api.Raft{})) {
					t.Errorf("%s, Commit %d: Compact %d: %s %d", name, q.to, index, said(out), err)
				}
			}
		}
	}
}

// P9.6: the Log is compacted, and nothing else changes, but for the members at the base.
func TestCompact(t *testing.T) {
	for name, r := range roles() {
		e := r.Log.Entries
		for _, q := range []struct {
			index uint64
			want  api.Log
		}{{2, r.Log}, {3, behind(at(3, 1), e[1:]...)}, {4, behind(at(4, 2), e[2:]...)}} {
			out, err := raft.Compact(r, q.index)
			row{name: name + ", " + said(q.index), want: but(r, func(r *api.Raft) { r.Log = deepLog(q.want) })}.ask(t, out, nil, false, err)
		}
		all := but(r, commitNow(6))
		out, err := raft.Compact(all, 6)
		row{name: name + ", all", want: but(all, func(r *api.Raft) { r.Log = behind(at(6, 4), deepEntries(e[4:])...) })}.ask(t, out, nil, false, err)
	}
	bare := api.Raft{Me: 2, Conf: of(4), Role: 1, Limit: 4}
	out, err := raft.Compact(bare, 0)
	row{name: "nothing", want: bare}.ask(t, out, nil, false, err)
}

// P9.6: Conf are the members that the last EntConf up to there says; as it was, if there is none.
func TestCompactKeepsTheMembers(t *testing.T) {
	for name, r := range roles() {
		r = but(r, func(r *api.Raft) {
			r.Log.Entries[1], r.Log.Entries[2], r.Log.Entries[3] = change(2, 1, 2), change(2, 1, 2, 4), change(4, 1)
			r.Commit = 6
		})
		force, _ := raft.Force(r)
		for index, members := range map[uint64][]int{2: {1, 2, 3}, 3: {1, 2, 3}, 4: {1, 2}, 5: {1, 2, 4}, 6: {1}} {
			out, err := raft.Compact(r, index)
			if err != api.OK || said(out.Conf) != said(of(members...)) || out.Log.Base.Index != index || raft.Check(out) != api.OK {
				t.Errorf("%s: Compact %d: %s %d", name, index, said(out), err)
			}
			if now, err := raft.Force(out); err != api.OK || said(now) != said(force) {
				t.Errorf("%s: Compact %d: other members are in force: %v", name, index, now)
			}
		}
	}
}

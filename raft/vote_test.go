package raft_test

import (
	"testing"

	"tallyhouse/api"
	"tallyhouse/raft"
)

// above is a server behind a message of that Term, which is above its own.
func above(r api.Raft, term uint64) api.Raft {
	return but(r, func(r *api.Raft) { r.Term, r.Vote, r.Role, r.Leader, r.Votes, r.Peers = term, 0, 1, 0, nil, nil })
}

// given is a server that has voted for 2.
func given(r *api.Raft) { r.Vote, r.Clock = 2, 0 }

// P9.4: while it holds back, a MsgVote changes nothing, and is not answered; then it is.
func TestVoteWhileItHoldsBack(t *testing.T) {
	clock := func(n int) func(r *api.Raft) { return func(r *api.Raft) { r.Clock = n } }
	var rows []row
	for _, term := range []uint64{1, 4, 5, 6, 9, api.MaxTerm} {
		ask := vote(2, term, at(9, min(term, 5)))
		for n := range 4 {
			r := but(led(), clock(n))
			rows = append(rows, row{name: "led, Clock " + said(n), r: r, msg: ask, want: r})
		}
		for _, n := range []int{0, 1, 4, 6} {
			r := but(leading(), clock(n))
			rows = append(rows, row{name: "leading, Clock " + said(n), r: r, msg: ask, want: r})
		}
	}
	for n := range 7 {
		r := but(waiting(), clock(n))
		rows = append(rows, row{name: "no leader, Clock " + said(n), r: r, msg: vote(2, 6, at(6, 4)), want: but(above(r, 6), given), sent: backs(voted(2, 6, true))})
	}
	for _, n := range []int{4, 5, 6} {
		r := but(led(), clock(n))
		rows = append(rows,
			row{name: "led, Clock " + said(n), r: r, msg: vote(2, 6, at(6, 4)), want: but(above(r, 6), given), sent: backs(voted(2, 6, true))},
			row{name: "led, of its Term, Clock " + said(n), r: r, msg: vote(2, 5, at(6, 4)), want: but(r, given), sent: backs(voted(2, 5, true))},
			row{name: "led, of a Term below, Clock " + said(n), r: r, msg: vote(2, 4, at(6, 4)), want: r, sent: backs(voted(2, 5, false))},
			row{name: "led, of an older log, Clock " + said(n), r: r, msg: vote(2, 6, at(5, 4)), want: above(r, 6), sent: backs(voted(2, 6, false))},
		)
	}
	take(t, rows)
}

// P9.4: a vote is given, or not, for each reason.
func TestVote(t *testing.T) {
	r := waiting()
	gave := func(who int) api.Raft { return but(r, func(r *api.Raft) { r.Vote = who }) }
	yes, no := backs(voted(2, 5, true)), backs(voted(2, 5, false))
	rows := []row{
		{name: "nobody yet", r: r, msg: vote(2, 5, at(6, 4)), want: but(r, given), sent: yes},
		{name: "the same one again", r: gave(2), msg: vote(2, 5, at(6, 4)), want: but(r, given), sent: yes},
		{name: "another one", r: gave(3), msg: vote(2, 5, at(6, 4)), want: gave(3), sent: no},
		{name: "itself", r: gave(1), msg: vote(2, 5, at(6, 4)), want: gave(1), sent: no},
		{name: "a greater index", r: r, msg: vote(2, 5, at(7, 4)), want: but(r, given), sent: yes},
		{name: "a greater Term, and a lesser index", r: r, msg: vote(2, 5, at(1, 5)), want: but(r, given), sent: yes},
		{name: "a lesser index", r: r, msg: vote(2, 5, at(5, 4)), want: r, sent: no},
		{name: "a lesser Term, and a greater index", r: r, msg: vote(2, 5, at(99, 3)), want: r, sent: no},
		{name: "no place", r: r, msg: vote(2, 5, at(0, 0)), want: r, sent: no},
		{name: "the same one, a lesser index", r: gave(2), msg: vote(2, 5, at(5, 4)), want: gave(2), sent: no},
		{name: "a Term below", r: r, msg: vote(2, 4, at(6, 4)), want: r, sent: no},
		{name: "a Term below, of who was voted for", r: gave(2), msg: vote(2, 4, at(99, 4)), want: gave(2), sent: no},
		{name: "least Term", r: r, msg: vote(2, 1, at(0, 0)), want: r, sent: no},
		{name: "a Term above", r: gave(3), msg: vote(2, 6, at(6, 4)), want: but(above(r, 6), given), sent: backs(voted(2, 6, true))},
		{name: "a Term above, a lesser index", r: gave(3), msg: vote(2, 6, at(5, 4)), want: above(r, 6), sent: backs(voted(2, 6, false))},
		{name: "MaxTerm", r: gave(3), msg: vote(2, api.MaxTerm, at(6, 4)), want: but(above(r, api.MaxTerm), given), sent: backs(voted(2, api.MaxTerm, true))},
		{name: "standing, its Term", r: standing(), msg: vote(2, 5, at(9, 5)), want: standing(), sent: no},
		{name: "standing, a Term below", r: standing(), msg: vote(2, 4, at(9, 4)), want: standing(), sent: no},
		{name: "standing, a Term above", r: standing(), msg: vote(2, 7, at(6, 4)), want: but(above(r, 7), given), sent: backs(voted(2, 7, true))},
		{name: "standing, a Term above, an older log", r: standing(), msg: vote(2, 7, at(5, 4)), want: above(r, 7), sent: backs(voted(2, 7, false))},
	}
	empty := but(r, func(r *api.Raft) { r.Term, r.Log, r.Commit = 0, api.Log{}, 0 })
	rows = append(rows, row{name: "a new one of a new one", r: empty, msg: vote(2, 1, at(0, 0)), want: but(above(empty, 1), given), sent: backs(voted(2, 1, true))})
	base := but(r, func(r *api.Raft) { r.Log.Entries, r.Commit = nil, 2 })
	rows = append(rows,
		row{name: "no entries", r: base, msg: vote(2, 5, at(2, 1)), want: but(base, given), sent: yes},
		row{name: "no entries, older", r: base, msg: vote(2, 5, at(1, 1)), want: base, sent: no},
		row{name: "no member asks one that is none", r: but(r, others), msg: vote(2, 5, at(6, 4)), want: but(r, others, given), sent: yes},
	)
	take(t, rows)
}

// others are members that neither 1 nor 2 is.
func others(r *api.Raft) { r.Conf = of(4, 5) }

// newLeader is one that has just come to lead, behind 6.
func newLeader(r *api.Raft) {
	r.Role, r.Leader, r.Clock, r.Votes = 3, 1, 0, nil
	r.Log.Entries = append(r.Log.Entries, none(5))
	r.Peers = []api.Peer{{Who: 2, Next: 7}, {Who: 3, Next: 7}, {Who: 4, Next: 7}, {Who: 5, Next: 7}}
}

// P9.4: of one that stands who votes for it is among Votes, and by a majority it leads.
func TestVoted(t *testing.T) {
	r := standing()
	of5 := func(r *api.Raft) { r.Conf = of(1, 2, 3, 4, 5) }
	of4 := func(r *api.Raft) { r.Conf = of(1, 2, 3, 4) }
	votes := func(list ...int) func(r *api.Raft) { return func(r *api.Raft) { r.Votes = list } }
	news := func(to ...int) []api.Msg {
		var out []api.Msg
		for _, n := range to {
			out = append(out, back(offer(n, 5, at(6, 4), 4, none(5))))
		}
		return out
	}
	last := func(r *api.Raft) { r.Log.Entries[3] = change(4, 1, 4) }
	full := func(r *api.Raft) { r.Log.Entries = alike(16, 4) }
	end := func(r *api.Raft) { r.Log.Base, r.Commit = at(top-5, 1), top-3 }
	refused := func(r *api.Raft) { r.Role, r.Votes = 1, nil }
	out := func(r *api.Raft) { r.Conf = of(2) }
	outOf3 := func(r *api.Raft) { r.Conf = of(2, 3, 4) }
	gone := func(r *api.Raft) { r.Log.Entries[3] = change(4, 2) }
	appended := func(r *api.Raft) { r.Log.Entries, r.Clock = append(r.Log.Entries, none(5)), 0 }
	take(t, []row{
		{name: "not Ok", r: r, msg: voted(2, 5, false), want: r},
		{name: "a Term below", r: r, msg: voted(2, 4, true), want: r},
		{name: "a Term above", r: r, msg: voted(2, 6, true), want: above(r, 6)},
		{name: "a Term above, not Ok", r: r, msg: voted(2, 6, false), want: above(r, 6)},
		{name: "a majority of three", r: r, msg: voted(2, 5, true), want: but(r, newLeader), sent: news(2, 3)},
		{name: "a majority of three by 3", r: r, msg: voted(3, 5, true), want: but(r, newLeader), sent: news(2, 3)},
		{name: "of who is no member", r: r, msg: voted(4, 5, true), want: but(r, votes(1, 4))},
		{name: "a majority beside who is no member", r: but(r, votes(1, 5)), msg: voted(2, 5, true), want: but(r, newLeader), sent: news(2, 3)},
		{name: "two of four", r: but(r, of4), msg: voted(4, 5, true), want: but(r, of4, votes(1, 4))},
		{name: "three of four", r: but(r, of4, votes(1, 4)), msg: voted(2, 5, true), want: but(r, of4, newLeader), sent: news(2, 3, 4)},
		{name: "two of five", r: but(r, of5), msg: voted(3, 5, true), want: but(r, of5, votes(1, 3))},
		{name: "two of five again", r: but(r, of5, votes(1, 3)), msg: voted(3, 5, true), want: but(r, of5, votes(1, 3))},
		{name: "three of five", r: but(r, of5, votes(1, 3)), msg: voted(2, 5, true), want: but(r, of5, newLeader), sent: news(2, 3, 4, 5)},
		{name: "a majority ahead already", r: but(r, votes(1, 3)), msg: voted(3, 5, true), want: but(r, newLeader), sent: news(2, 3)},
		{name: "a majority ahead already, not Ok", r: but(r, votes(1, 3)), msg: voted(3, 5, false), want: but(r, votes(1, 3))},
		{name: "members that are not settled", r: but(r, last), msg: voted(2, 5, true), want: but(r, last, votes(1, 2))},
		{name: "a majority of members that are not settled", r: but(r, last), msg: voted(4, 5, true), want: but(r, last, newLeader), sent: news(4)},
		{name: "full", r: but(r, full), msg: voted(2, 5, true), want: but(r, full, refused, func(r *api.Raft) { r.Clock = 0 })},
		{name: "no index more", r: but(r, end), msg: voted(2, 5, true), want: but(r, end, refused, func(r *api.Raft) { r.Clock = 0 })},
		{name: "no member", r: but(r, out), msg: voted(2, 5, true), want: but(r, out, refused, appended)},
		{name: "no member, too few", r: but(r, outOf3), msg: voted(2, 5, true), want: but(r, outOf3, votes(1, 2))},
		{name: "no member by what is not settled", r: but(r, gone), msg: voted(2, 5, true), want: but(r, gone, newLeader), sent: news(2)},
	})
}

// P9.4: a MsgVoted is nothing to who does not stand, but for its Term.
func TestVotedForWhoDoesNotStand(t *testing.T) {
	for name, r := range roles() {
		if name == "standing" {
			continue
		}
		var rows []row
		for _, ok := range []bool{true, false} {
			for term := uint64(1); term <= 5; term++ {
				rows = append(rows, row{name: name, r: r, msg: voted(2, term, ok), want: r})
			}
			rows = append(rows, row{name: name + ", a Term above", r: r, msg: voted(2, 6, ok), want: above(r, 6)})
			rows = append(rows, row{name: name + ", MaxTerm", r: r, msg: voted(2, api.MaxTerm, ok), want: above(r, api.MaxTerm)})
		}
		take(t, rows)
	}
}

// P9.4: whatever comes of a Term above its own, but for a MsgVote while it holds back, it has that Term, no Vote that was, and no Role but to follow.
func TestTermsAbove(t *testing.T) {
	for name, r := range roles() {
		for _, term := range []uint64{6, 7, 1 << 40, api.MaxTerm} {
			for _, m := range kinds(term) {
				out, _, _, err := raft.Take(r, m)
				switch {
				case err != api.OK:
					t.Errorf("%s: %d", said(m), err)
				case m.Kind == api.MsgVote && (name == "led" || name == "leading"):
					if said(out) != said(r) {
						t.Errorf("%s: %s at %s", name, said(out), said(m))
					}
				case out.Term != term || out.Vote != 0 && m.Kind != api.MsgVote || out.Role != api.RoleFollower || len(out.Votes)+len(out.Peers) > 0:
					t.Errorf("%s: %s at %s", name, said(out), said(m))
				}
			}
		}
	}
}

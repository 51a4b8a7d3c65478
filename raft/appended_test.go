package raft_test

import (
	"testing"

	"tallyhouse/api"
)

// peerNow is a leader's peer then, by its place.
func peerNow(i int, p api.Peer) func(r *api.Raft) {
	return func(r *api.Raft) { r.Peers[i] = p }
}

// P9.4: who does not lead, or leads in another Term, has no use for it.
func TestAppendedForNobody(t *testing.T) {
	var rows []row
	for name, r := range roles() {
		for _, m := range []api.Msg{appended(2, 4, true, at(4, 2)), appended(2, 4, false, at(4, 2)), appended(3, 1, true, at(0, 0))} {
			rows = append(rows, row{name: name + ", a Term below", r: r, msg: m, want: r})
		}
		for _, m := range []api.Msg{appended(2, 6, true, at(7, 5)), appended(2, 6, false, at(4, 2))} {
			rows = append(rows, row{name: name + ", a Term above", r: r, msg: m, want: above(r, 6)})
		}
		if name != "leading" {
			rows = append(rows, row{name: name + ", Ok", r: r, msg: appended(2, 5, true, at(6, 4)), want: r}, row{name: name + ", not Ok", r: r, msg: appended(2, 5, false, at(4, 2)), want: r})
		}
	}
	take(t, rows)
}

// P9.4: Ok: Match, Next and Commit go on, and more is sent.
func TestAppendedOk(t *testing.T) {
	r := leading()
	of5 := func(r *api.Raft) { r.Conf = of(1, 2, 3, 4, 5) }
	ok := func(from int, place api.At) api.Msg { return appended(from, 5, true, place) }
	e := r.Log.Entries
	rest := func(to int, place api.At, commit uint64, entries ...api.Entry) []api.Msg {
		return backs(offer(to, 5, place, commit, entries...))
	}
	quiet := func(r *api.Raft) { r.Peers[1].Quiet = 0 }
	take(t, []row{
		{name: "all", r: r, msg: ok(2, at(7, 5)), want: but(r, commitNow(7), peerNow(0, api.Peer{Who: 2, Next: 8, Match: 7}))},
		{name: "not all", r: r, msg: ok(2, at(6, 4)), want: but(r, peerNow(0, api.Peer{Who: 2, Next: 7, Match: 6})), sent: rest(2, at(6, 4), 4, e[4])},
		{name: "of one that was quiet", r: r, msg: ok(3, at(7, 5)), want: but(r, commitNow(7), peerNow(1, api.Peer{Who: 3, Next: 8, Match: 7}))},
		{name: "below Next", r: r, msg: ok(3, at(4, 2)), want: but(r, peerNow(1, api.Peer{Who: 3, Next: 6, Match: 4})), sent: rest(3, at(5, 2), 4, e[3], e[4])},
		{name: "just above Match", r: r, msg: ok(3, at(3, 1)), want: but(r, peerNow(1, api.Peer{Who: 3, Next: 6, Match: 3})), sent: rest(3, at(5, 2), 4, e[3], e[4])},
		{name: "at Match", r: r, msg: ok(3, at(2, 1)), want: but(r, quiet)},
		{name: "below Match", r: r, msg: ok(3, at(1, 1)), want: but(r, quiet)},
		{name: "no place", r: r, msg: ok(3, at(0, 0)), want: but(r, quiet)},
		{name: "behind the end", r: r, msg: ok(3, at(8, 5)), want: but(r, quiet)},
		{name: "far behind the end", r: r, msg: ok(3, at(top-1, 5)), want: but(r, quiet)},
		{name: "up to the base", r: r, msg: ok(4, at(2, 1)), want: but(r, peerNow(2, api.Peer{Who: 4, Next: 3, Match: 2})), sent: rest(4, at(2, 1), 4, e...)},
		{name: "below the base", r: r, msg: ok(4, at(1, 1)), want: but(r, peerNow(2, api.Peer{Who: 4, Next: 2, Match: 1})), sent: backs(snap(4, 5, at(2, 1), 1, 2, 3))},
		{name: "of who is no member", r: r, msg: ok(5, at(7, 5)), want: but(r, peerNow(3, api.Peer{Who: 5, Next: 8, Match: 7}))},
		{name: "a majority of an older Term", r: r, msg: ok(2, at(5, 2)), want: but(r, peerNow(0, api.Peer{Who: 2, Next: 7, Match: 5})), sent: rest(2, at(6, 4), 4, e[4])},
		{name: "one of four others", r: but(r, of5), msg: ok(2, at(7, 5)), want: but(r, of5, peerNow(0, api.Peer{Who: 2, Next: 8, Match: 7}))},
		{name: "two of four others", r: but(r, of5, peerNow(3, api.Peer{Who: 5, Next: 8, Match: 7})), msg: ok(2, at(7, 5)), want: but(r, of5, peerNow(3, api.Peer{Who: 5, Next: 8, Match: 7}), peerNow(0, api.Peer{Who: 2, Next: 8, Match: 7}), commitNow(7))},
		{name: "twice", r: settled(), msg: ok(2, at(7, 5)), want: settled()},
		{name: "an old one", r: settled(), msg: ok(2, at(3, 1)), want: settled()},
	})
}

// P9.4: Commit moves to what a majority has, if that is of its Term; what is sent on then tells of it.
func TestAppendedMovesCommit(t *testing.T) {
	long := but(leading(), func(r *api.Raft) { r.Log.Entries = append(r.Log.Entries, commands(5, 5)...) })
	e := long.Log.Entries
	first := but(long, commitNow(7), peerNow(0, api.Peer{Who: 2, Next: 8, Match: 7}))
	take(t, []row{
		{name: "the first one of its Term", r: long, msg: appended(2, 5, true, at(7, 5)), want: first, sent: backs(offer(2, 5, at(7, 5), 7, e[5], e[6]))},
		{name: "another one behind", r: first, msg: appended(3, 5, true, at(8, 5)), want: but(first, commitNow(8), peerNow(1, api.Peer{Who: 3, Next: 9, Match: 8})), sent: backs(offer(3, 5, at(8, 5), 8, e[6]))},
		{name: "the last one of an older Term", r: long, msg: appended(2, 5, true, at(6, 4)), want: but(long, peerNow(0, api.Peer{Who: 2, Next: 7, Match: 6})), sent: backs(offer(2, 5, at(6, 4), 4, e[4], e[5], e[6]))},
	})
	many := but(leading(), func(r *api.Raft) { r.Log.Entries = append(r.Log.Entries, alike(9, 5)...) })
	e = many.Log.Entries
	take(t, []row{{name: "8 at most", r: many, msg: appended(4, 5, true, at(3, 1)), want: but(many, peerNow(2, api.Peer{Who: 4, Next: 4, Match: 3})), sent: backs(offer(4, 5, at(3, 1), 4, e[1:9]...))}})
}

// P9.4: a leader that is no member any more goes on till that is settled, and then follows nobody.
func TestAppendedAtALeaderThatIsNoMember(t *testing.T) {
	gone := but(leading(), func(r *api.Raft) {
		r.Log.Entries = append(r.Log.Entries, change(5, 2, 3), command(5, "x"))
		r.Commit = 7
		r.Peers[0], r.Peers[1] = api.Peer{Who: 2, Next: 10, Match: 9}, api.Peer{Who: 3, Next: 8, Match: 7}
	})
	no := func(r *api.Raft) { r.Role, r.Leader, r.Peers = 1, 0, nil }
	e := gone.Log.Entries
	clock := func(r *api.Raft) { r.Clock = 1 }
	ok := appended(3, 5, true, at(8, 5))
	some := but(gone, peerNow(0, api.Peer{Who: 2, Next: 9, Match: 7}))
	out := but(leading(), func(r *api.Raft) { r.Conf = of(2, 3) })
	take(t, []row{
		{name: "the change is settled", r: gone, msg: ok, want: but(gone, commitNow(8), no)},
		{name: "all is settled", r: gone, msg: appended(3, 5, true, at(9, 5)), want: but(gone, commitNow(9), no)},
		{name: "its Clock stays", r: but(gone, clock), msg: ok, want: but(gone, clock, commitNow(8), no)},
		{name: "its own does not count", r: some, msg: ok, want: but(some, peerNow(1, api.Peer{Who: 3, Next: 9, Match: 8})), sent: backs(offer(3, 5, at(8, 5), 7, e[6]))},
		{name: "no member, no change, nothing is settled", r: out, msg: appended(3, 5, true, at(4, 2)), want: but(out, no)},
		{name: "no member, no change, nothing new", r: out, msg: appended(3, 5, true, at(2, 1)), want: but(out, peerNow(1, api.Peer{Who: 3, Next: 6, Match: 2}))},
		{name: "no member, not Ok", r: out, msg: appended(2, 5, false, at(7, 5)), want: out},
	})
}

// P9.4: not Ok: Next goes back to the fork, or to what is told, but not to Match, and it is sent on.
func TestAppendedNotOk(t *testing.T) {
	r := but(leading(), peerNow(0, api.Peer{Who: 2, Next: 8}), peerNow(1, api.Peer{Who: 3, Next: 8, Match: 4, Quiet: 9}))
	e := r.Log.Entries
	high := but(r, func(r *api.Raft) { r.Log = behind(at(5, 2), e[3:]...); r.Commit = 5 })
	zero := but(r, func(r *api.Raft) {
		r.Log.Base, r.Commit, r.Peers[0].Next, r.Peers[1] = at(0, 0), 2, 6, api.Peer{Who: 3, Next: 6}
		r.Peers[3].Next = 1
	})
	quiet := func(r *api.Raft) { r.Peers[1].Quiet = 0 }
	var rows []row
	for _, q := range []struct {
		name  string
		r     api.Raft
		place api.At
		next  uint64
	}{
		{"the last one", r, at(7, 5), 8}, {"behind all", r, at(9, 5), 8}, {"behind all, a lesser Term", r, at(9, 4), 7}, {"the last one, a lesser Term", r, at(7, 4), 7},
		{"one ahead of it", r, at(6, 4), 7}, {"of Term 3", r, at(6, 3), 6}, {"of Term 2", r, at(6, 2), 6}, {"of Term 1", r, at(6, 1), 4}, {"a greater Term", r, at(4, 5), 5},
		{"amid", r, at(4, 2), 5}, {"amid, a lesser Term", r, at(4, 1), 4}, {"just above the base", r, at(3, 1), 4}, {"at the base", r, at(2, 1), 3}, {"at the base, a greater Term", r, at(2, 4), 3},
		{"just below the base", r, at(1, 1), 2}, {"no place", r, at(0, 0), 1},
		{"at the base, a lesser Term", high, at(5, 1), 6}, {"behind the base, a lesser Term", high, at(7, 1), 6}, {"just below the base, a greater Term", high, at(4, 4), 5}, {"far below the base", high, at(1, 1), 2},
		{"no place, and no base", zero, at(0, 0), 1}, {"no base", zero, at(1, 1), 2},
	} {
		want := q.r
		var sent []api.Msg
		if was := q.r.Peers[0].Next; q.next < was {
			want = but(q.r, func(r *api.Raft) { r.Peers[0].Next = q.next })
			sent = []api.Msg{back(sentFrom(q.r, 2, q.next))}
		}
		rows = append(rows, row{name: q.name, r: q.r, msg: appended(2, 5, false, q.place), want: want, sent: sent})
	}
	rows = append(rows,
		row{name: "below Match", r: r, msg: appended(3, 5, false, at(3, 1)), want: but(r, quiet, func(r *api.Raft) { r.Peers[1].Next = 5 }), sent: backs(offer(3, 5, at(4, 2), 4, e[2:]...))},
		row{name: "at Match", r: r, msg: appended(3, 5, false, at(4, 2)), want: but(r, quiet, func(r *api.Raft) { r.Peers[1].Next = 5 }), sent: backs(offer(3, 5, at(4, 2), 4, e[2:]...))},
		row{name: "below the base, and below Match", r: r, msg: appended(3, 5, false, at(1, 1)), want: but(r, quiet, func(r *api.Raft) { r.Peers[1].Next = 5 }), sent: backs(offer(3, 5, at(4, 2), 4, e[2:]...))},
		row{name: "Next is back already", r: but(r, func(r *api.Raft) { r.Peers[1].Next = 5 }), msg: appended(3, 5, false, at(4, 2)), want: but(r, quiet, func(r *api.Raft) { r.Peers[1].Next = 5 })},
		row{name: "Next is back further", r: but(r, func(r *api.Raft) { r.Peers[0].Next = 4 }), msg: appended(2, 5, false, at(4, 2)), want: but(r, func(r *api.Raft) { r.Peers[0].Next = 4 })},
		row{name: "of who is no member", r: r, msg: appended(5, 5, false, at(4, 2)), want: but(r, func(r *api.Raft) { r.Peers[3].Next = 5 }), sent: backs(offer(5, 5, at(4, 2), 4, e[2:]...))},
	)
	take(t, rows)
}

// sentFrom is what is sent to a peer from an index on, by server 1 of 1 2 3.
func sentFrom(r api.Raft, to int, next uint64) api.Msg {
	m := model{Raft: r}
	if next <= r.Log.Base.Index {
		return snap(to, r.Term, r.Log.Base, 1, 2, 3)
	}
	return offer(to, r.Term, m.place(next-1), r.Commit, r.Log.Entries[next-r.Log.Base.Index-1:]...)
}

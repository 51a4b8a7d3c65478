package raft_test

import (
	"math"
	"testing"

	"tallyhouse/api"
	"tallyhouse/raft"
)

// tick has each row's server tick, with 9 as the next Limit.
func tick(t *testing.T, rows []row) {
	t.Helper()
	for _, q := range rows {
		if err := raft.Check(q.r); err != api.OK {
			t.Fatalf("%s: the server may not be", q.name)
		}
		r, sent, err := raft.Tick(q.r, 9)
		q.ask(t, r, sent, false, err)
	}
}

// P9.3: ErrArg, whatever the Role is, and whether the Clock is at Limit or not.
func TestTickWithWrongLimits(t *testing.T) {
	for name, r := range roles() {
		for _, limit := range []int{math.MinInt, -4, -1, 0, 1, 3, 17, 18, 260, 1<<32 + 4, math.MaxInt} {
			for _, clock := range []int{0, 5, 6} {
				out, sent, err := raft.Tick(but(r, func(r *api.Raft) { r.Clock = clock }), limit)
				if err != api.ErrArg || said(out) != said(api.Raft{}) || len(sent) > 0 {
					t.Errorf("%s: Tick %d: %s %s %d", name, limit, said(out), said(sent), err)
				}
			}
		}
		for limit := 4; limit <= 16; limit++ {
			if _, _, err := raft.Tick(r, limit); err != api.OK {
				t.Errorf("%s: Tick %d: %d", name, limit, err)
			}
		}
	}
}

// P9.3: who does not lead waits, and then stands, with the next Limit.
func TestTickOfOthers(t *testing.T) {
	clock := func(n int) func(r *api.Raft) { return func(r *api.Raft) { r.Clock = n } }
	limit := func(r *api.Raft) { r.Clock, r.Limit = 0, 9 }
	stands := func(r *api.Raft) {
		r.Term, r.Role, r.Vote, r.Votes, r.Leader, r.Clock, r.Limit = 6, 2, 1, []int{1}, 0, 0, 9
	}
	asks := func(to ...int) []api.Msg {
		var out []api.Msg
		for _, n := range to {
			out = append(out, back(vote(n, 6, at(6, 4))))
		}
		return out
	}
	out := func(r *api.Raft) { r.Conf = of(2, 3) }
	voted := func(r *api.Raft) { r.Votes = []int{1, 4, 5} }
	var rows []row
	for name, r := range map[string]api.Raft{"waiting": waiting(), "led": led(), "standing": standing(), "standing with votes": but(standing(), voted)} {
		late := but(r, clock(5))
		rows = append(rows,
			row{name: name + " waits", r: r, want: but(r, clock(3))},
			row{name: name + " waits from 0", r: but(r, clock(0)), want: but(r, clock(1))},
			row{name: name + ", one short of Limit", r: but(r, clock(4)), want: late},
			row{name: name + " stands", r: late, want: but(r, stands), sent: asks(2, 3)},
			row{name: name + ", Clock at Limit", r: but(r, clock(6)), want: but(r, stands), sent: asks(2, 3)},
			row{name: name + ", no member", r: but(late, out), want: but(late, out, limit)},
			row{name: name + ", at MaxTerm", r: but(late, maxTerm), want: but(late, maxTerm, limit)},
			row{name: name + ", no member at MaxTerm", r: but(late, maxTerm, out), want: but(late, maxTerm, out, limit)},
			row{name: name + ", no member, waits", r: but(r, out), want: but(r, out, clock(3))},
		)
	}
	last := func(r *api.Raft) { r.Log.Entries[3] = change(4, 1, 4, 5) }
	gone := func(r *api.Raft) { r.Log.Entries[3] = change(4, 2, 3) }
	late := but(waiting(), clock(5))
	rows = append(rows,
		row{name: "members that are not settled", r: but(late, last), want: but(late, last, stands), sent: asks(4, 5)},
		row{name: "a member by what is not settled alone", r: but(late, last, out), want: but(late, last, out, stands), sent: asks(4, 5)},
		row{name: "no member by what is not settled", r: but(late, gone), want: but(late, gone, limit)},
	)
	tick(t, rows)
}

func maxTerm(r *api.Raft) { r.Term = api.MaxTerm }

// P9.3: one Term below MaxTerm it stands, and at MaxTerm it may lead.
func TestTickBelowMaxTerm(t *testing.T) {
	r := but(waiting(), func(r *api.Raft) { r.Term, r.Clock = api.MaxTerm-1, 5 })
	r, sent, err := raft.Tick(r, 4)
	if err != api.OK || r.Term != 1<<62 || r.Role != api.RoleStanding || len(sent) != 2 || sent[0].Term != 1<<62 {
		t.Fatalf("%s %s %d", said(r), said(sent), err)
	}
	r, sent = taken(t, r, voted(2, 1<<62, true))
	if r.Role != api.RoleLeading || len(sent) != 2 || raft.Check(r) != api.OK {
		t.Errorf("%s %s", said(r), said(sent))
	}
}

// P9.3: who is a majority alone leads at once, and has settled its entry; one without room follows nobody.
func TestTickOfOneAlone(t *testing.T) {
	late := but(waiting(), func(r *api.Raft) { r.Clock, r.Conf = 5, of(1) })
	leads := func(r *api.Raft) {
		r.Term, r.Role, r.Vote, r.Leader, r.Clock, r.Limit, r.Commit = 6, 3, 1, 1, 0, 9, 7
		r.Log.Entries = append(r.Log.Entries, none(6))
		r.Peers = []api.Peer{{Who: 2, Next: 7}, {Who: 3, Next: 7}, {Who: 4, Next: 7}, {Who: 5, Next: 7}}
	}
	refused := func(r *api.Raft) { r.Term, r.Vote, r.Clock, r.Limit = 6, 1, 0, 9 }
	full := func(r *api.Raft) { r.Log.Entries = alike(16, 4) }
	almost := func(r *api.Raft) { r.Log.Entries = alike(15, 4) }
	end := func(r *api.Raft) { r.Log.Base, r.Commit = at(top-5, 1), top-2 }
	alone := func(r *api.Raft) { r.Conf, r.Log.Entries[3] = of(1, 2, 3), change(4, 1) }
	tick(t, []row{
		{name: "alone", r: late, want: but(late, leads)},
		{name: "alone by what is not settled", r: but(late, alone), want: but(late, alone, leads)},
		{name: "full", r: but(late, full), want: but(late, full, refused)},
		{name: "no index more", r: but(late, end), want: but(late, end, refused)},
		{name: "just room", r: but(late, almost), want: but(late, almost, leads, func(r *api.Raft) {
			r.Commit = 18
			for i := range r.Peers {
				r.Peers[i].Next = 18
			}
		})},
	})
}

// P9.3: who leads sends on to the members at each second tick.
func TestTickOfALeader(t *testing.T) {
	quiet := func(by int) func(r *api.Raft) {
		return func(r *api.Raft) {
			for i := range r.Peers {
				r.Peers[i].Quiet += by
			}
		}
	}
	clock := func(n int) func(r *api.Raft) { return func(r *api.Raft) { r.Clock = n } }
	r := leading()
	two := back(offer(2, 5, at(6, 4), 4, none(5)))
	three := back(offer(3, 5, at(5, 2), 4, r.Log.Entries[3], none(5)))
	four := back(snap(4, 5, at(2, 1), 1, 2, 3, 4, 5))
	five := back(offer(5, 5, at(7, 5), 4))
	all := func(r *api.Raft) { r.Conf = of(1, 2, 3, 4, 5) }
	last := func(r *api.Raft) { r.Log.Entries[4] = change(5, 1, 4) }
	snapped := back(snap(4, 5, at(2, 1), 1, 2, 3))
	out := func(r *api.Raft) { r.Conf = of(2, 3) }
	tick(t, []row{
		{name: "first tick", r: r, want: but(r, clock(1), quiet(1))},
		{name: "second tick", r: but(r, clock(1)), want: but(r, quiet(1)), sent: []api.Msg{two, three}},
		{name: "a Clock far above Beat", r: but(r, clock(5)), want: but(r, quiet(1)), sent: []api.Msg{two, three}},
		{name: "a Clock at Limit", r: but(r, clock(6)), want: but(r, quiet(1)), sent: []api.Msg{two, three}},
		{name: "all members", r: but(r, clock(1), all), want: but(r, all, quiet(1)), sent: []api.Msg{two, three, four, five}},
		{name: "members that are not settled", r: but(r, clock(1), last), want: but(r, last, quiet(1)), sent: []api.Msg{snapped}},
		{name: "alone", r: but(alone(), clock(1)), want: but(alone(), quiet(1))},
		{name: "no member", r: but(r, clock(1), out), want: but(r, out, quiet(1)), sent: []api.Msg{two, three}},
		{name: "at MaxTerm", r: but(r, maxTerm), want: but(r, maxTerm, clock(1), quiet(1))},
	})
}

// P9.3: who leads and hears of no majority any more follows nobody.
func TestTickOfALeaderThatHearsTooFew(t *testing.T) {
	quiets := func(conf api.Conf, clock int, list ...int) api.Raft {
		return but(leading(), func(r *api.Raft) {
			r.Conf, r.Clock = conf, clock
			for i, n := range list {
				r.Peers[i].Quiet = n
			}
		})
	}
	for _, q := range []struct {
		name  string
		r     api.Raft
		leads bool
	}{
		{"both of three at 15", quiets(of(1, 2, 3), 0, 15, 15, 0, 0), false},
		{"both of three at 16", quiets(of(1, 2, 3), 1, 16, 16, 0, 0), false},
		{"one of three at 15", quiets(of(1, 2, 3), 0, 15, 14, 15, 15), true},
		{"the other one of three at 15", quiets(of(1, 2, 3), 0, 14, 16, 16, 16), true},
		{"the other one of two", quiets(of(1, 3), 1, 0, 15, 0, 0), false},
		{"the other one of two is heard", quiets(of(1, 3), 0, 15, 14, 15, 15), true},
		{"two of four", quiets(of(1, 2, 4, 5), 0, 14, 14, 15, 15), false},
		{"one of four", quiets(of(1, 2, 4, 5), 0, 14, 15, 14, 15), true},
		{"three of five", quiets(of(1, 2, 3, 4, 5), 0, 15, 15, 15, 14), false},
		{"two of five", quiets(of(1, 2, 3, 4, 5), 0, 15, 14, 15, 14), true},
		{"alone", quiets(of(1), 0, 15, 15, 15, 15), true},
		{"no member, one of two", quiets(of(2, 3), 0, 14, 15, 0, 0), false},
		{"no member, both of two", quiets(of(2, 3), 0, 14, 14, 15, 15), true},
	} {
		r, sent, err := raft.Tick(q.r, 4)
		want := but(q.r, func(r *api.Raft) { r.Clock++ })
		for i := range want.Peers {
			want.Peers[i].Quiet = min(16, want.Peers[i].Quiet+1)
		}
		if !q.leads {
			want = but(q.r, func(r *api.Raft) { r.Role, r.Leader, r.Clock, r.Peers = 1, 0, 0, nil })
		}
		row{name: q.name, want: want}.ask(t, r, sent, false, err)
	}
}

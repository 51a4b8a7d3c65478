package raft_test

import (
	"testing"

	"tallyhouse/api"
	"tallyhouse/raft"
)

// newServers are so many members, all new, found by their numbers; there is none of 0.
func newServers(t *testing.T, count, limit int) []api.Raft {
	t.Helper()
	var members []int
	for n := 1; n <= count; n++ {
		members = append(members, n)
	}
	out := []api.Raft{{}}
	for _, me := range members {
		r, err := raft.Start(me, 0, 0, api.Log{}, of(members...), limit)
		if err != api.OK {
			t.Fatal(err)
		}
		out = append(out, r)
	}
	return out
}

// ticked is a server behind so many ticks, and what the last one of them sends.
func ticked(t *testing.T, r api.Raft, count, limit int) (api.Raft, []api.Msg) {
	t.Helper()
	var sent []api.Msg
	for i := range count {
		out, list, err := raft.Tick(r, limit)
		if err != api.OK || i < count-1 && len(list) > 0 && list[0].Kind == api.MsgVote {
			t.Fatalf("tick %d: %s %d", i, said(list), err)
		}
		r, sent = out, list
	}
	return r, sent
}

// taken is a server behind a message, and what it sends.
func taken(t *testing.T, r api.Raft, m api.Msg) (api.Raft, []api.Msg) {
	t.Helper()
	out, sent, there, err := raft.Take(r, m)
	if err != api.OK || there {
		t.Fatalf("%s takes %s: %d", said(r), said(m), err)
	}
	return out, sent
}

// P9.3 to P9.5: the chapter's examples.
func TestExamples(t *testing.T) {
	servers := newServers(t, 3, 4)
	one, two := servers[1], servers[2]
	one, sent := ticked(t, one, 4, 4)
	ask := api.Msg{Kind: api.MsgVote, From: 1, To: 2, Term: 1}
	other := ask
	other.To = 3
	if said(sent) != said([]api.Msg{ask, other}) || one.Role != api.RoleStanding || one.Term != 1 {
		t.Fatalf("1 stands: %s, %s", said(one), said(sent))
	}
	two, sent = taken(t, two, ask)
	yes := api.Msg{Kind: api.MsgVoted, From: 2, To: 1, Term: 1, Ok: true}
	if said(sent) != said([]api.Msg{yes}) || two.Vote != 1 {
		t.Fatalf("2 votes: %s, %s", said(two), said(sent))
	}
	one, sent = taken(t, one, yes)
	news := api.Msg{Kind: api.MsgAppend, From: 1, To: 2, Term: 1, Entries: []api.Entry{none(1)}}
	other = news
	other.To = 3
	if said(sent) != said([]api.Msg{news, other}) || one.Role != api.RoleLeading {
		t.Fatalf("1 leads: %s, %s", said(one), said(sent))
	}
	two, sent = taken(t, two, news)
	has := api.Msg{Kind: api.MsgAppended, From: 2, To: 1, Term: 1, Ok: true, Place: at(1, 1)}
	if said(sent) != said([]api.Msg{has}) || two.Leader != 1 {
		t.Fatalf("2 follows: %s, %s", said(two), said(sent))
	}
	one, sent = taken(t, one, has)
	if len(sent) > 0 || one.Commit != 1 {
		t.Fatalf("1 has settled 1: %s, %s", said(one), said(sent))
	}
	exampleOfTwo(t, two)
	exampleOfOne(t, one)
}

// exampleOfTwo goes on with who follows.
func exampleOfTwo(t *testing.T, two api.Raft) {
	r, sent := taken(t, two, api.Msg{Kind: api.MsgVote, From: 3, To: 2, Term: 9})
	if len(sent) > 0 || said(r) != said(two) {
		t.Errorf("2 holds back: %s, %s", said(r), said(sent))
	}
	if _, _, _, err := raft.Propose(two, api.EntCommand, nil); err != 191 {
		t.Errorf("Propose at 2: %d", err)
	}
}

// exampleOfOne goes on with who leads.
func exampleOfOne(t *testing.T, one api.Raft) {
	r, sent := taken(t, one, api.Msg{Kind: api.MsgVote, From: 3, To: 1, Term: 9})
	if len(sent) > 0 || said(r) != said(one) {
		t.Errorf("1 holds back: %s, %s", said(r), said(sent))
	}
	one, _, place, err := raft.Propose(one, api.EntConf, says(1, 2, 3, 4))
	if err != api.OK || place != at(2, 1) {
		t.Errorf("Propose at 1: %v %d", place, err)
	}
	if _, _, _, err := raft.Propose(one, api.EntConf, says(1, 2)); err != 192 {
		t.Errorf("Propose of another change at 1: %d", err)
	}
	r, _ = ticked(t, one, 15, 4)
	if r.Role != api.RoleLeading {
		t.Errorf("15 ticks: %s", said(r))
	}
	r, sent = ticked(t, r, 1, 4)
	if r.Role != api.RoleFollower || r.Leader != 0 || r.Clock != 0 || len(sent) > 0 {
		t.Errorf("16 ticks: %s, %s", said(r), said(sent))
	}
}

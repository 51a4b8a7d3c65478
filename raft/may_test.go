package raft_test

import (
	"math"
	"slices"
	"testing"

	"tallyhouse/api"
	"tallyhouse/raft"
)

// named is a server, and what there is about it; whether Start is given it, too.
type named struct {
	name   string
	r      api.Raft
	starts bool
}

// fresh is a follower as Start answers one.
func fresh() api.Raft {
	return api.Raft{Me: 1, Term: 5, Vote: 2, Log: behind(at(2, 1), commands(1, 2, 2, 4)...), Conf: of(1, 2, 3), Commit: 2, Role: api.RoleFollower, Limit: 6}
}

// wrongStarts may not be for what Start is given.
func wrongStarts() []named {
	var out []named
	not := func(name string, do func(r *api.Raft)) {
		out = append(out, named{name, but(fresh(), do), true})
	}
	for _, n := range []int{math.MinInt, -1, 0, 6, 257, 1<<32 + 1, math.MaxInt} {
		not(said(n)+" as Me", func(r *api.Raft) { r.Me = n })
	}
	for _, n := range []int{math.MinInt, -1, 6, 256, 1 << 32, math.MaxInt} {
		not(said(n)+" as Vote", func(r *api.Raft) { r.Vote = n })
	}
	for _, n := range []int{math.MinInt, -4, 0, 3, 17, 16 + 256, 1<<32 + 4, math.MaxInt} {
		not(said(n)+" as Limit", func(r *api.Raft) { r.Limit = n })
	}
	for _, n := range []uint64{0, 3, 1<<62 + 1, 1 << 63, top} {
		not(said(n)+" as Term", func(r *api.Raft) { r.Term = n })
	}
	not("a Term below Base's", func(r *api.Raft) { r.Term, r.Log = 0, behind(at(2, 1)) })
	for i, l := range wrongLogs() {
		not(said(i)+", a log", func(r *api.Raft) { r.Log, r.Commit = l, l.Base.Index })
	}
	for _, members := range wrongMembers() {
		not(said(members)+" as Conf", func(r *api.Raft) { r.Conf = of(members...) })
	}
	for _, data := range wrongData() {
		for i := range 4 {
			not(said(data)+" as Data", func(r *api.Raft) { r.Log.Entries[i].Kind, r.Log.Entries[i].Data = api.EntConf, data })
		}
		not(said(data)+" ahead of right ones", func(r *api.Raft) {
			r.Log.Entries[2] = api.Entry{Term: 2, Kind: api.EntConf, Data: data}
			r.Log.Entries[3] = change(4, 1, 2)
		})
	}
	return out
}

func wrongLogs() []api.Log {
	return []api.Log{
		behind(at(0, 1)), behind(at(1, 0)), behind(at(0, 0), commands(0)...), behind(at(0, 0), commands(2, 1)...), behind(at(2, 2), commands(1)...),
		behind(at(0, 0), alike(17, 1)...), behind(at(top, 1)), behind(at(top-1, 1), commands(1)...), behind(at(top-3, 1), alike(9, 1)...),
		behind(at(0, 0), api.Entry{Term: 1, Kind: 4}), behind(at(0, 0), api.Entry{Term: 1}), behind(at(0, 0), api.Entry{Term: 1, Kind: api.EntNone, Data: []byte{1}}),
		behind(at(0, 0), api.Entry{Term: 1, Kind: api.EntCommand, Data: make([]byte, 1025)}),
	}
}

func wrongMembers() [][]int {
	return [][]int{nil, {0}, {6}, {-1, 2}, {2, 1}, {1, 1}, {1, 2, 3, 4, 5, 6}, {1, 3, 2}, {0, 1}, {1, 257}}
}

func wrongData() [][]byte {
	return [][]byte{nil, {0}, {1}, {2, 1}, {1, 0}, {1, 6}, {2, 2, 1}, {2, 1, 1}, {1, 1, 2}, {0, 1}, {5, 1, 2, 3, 4}, make([]byte, 1024)}
}

// wrongCounts may not be for what is new at each start.
func wrongCounts() []named {
	var out []named
	not := func(name string, r api.Raft, do func(r *api.Raft)) {
		out = append(out, named{name, but(r, do), false})
	}
	for name, r := range roles() {
		for _, n := range []uint64{0, 1, 8, top} {
			not(name+", Commit "+said(n), r, func(r *api.Raft) { r.Commit = n })
		}
		for _, n := range []int{math.MinInt, -1, 7, 1 << 32, math.MaxInt} {
			not(name+", Clock "+said(n), r, func(r *api.Raft) { r.Clock = n })
		}
		for _, n := range []int{3, 17} {
			not(name+", Limit "+said(n), r, func(r *api.Raft) { r.Limit, r.Clock = n, 0 })
		}
		for _, n := range []int{math.MinInt, -1, 0, 4, 257, math.MaxInt} {
			not(name+", Role "+said(n), r, func(r *api.Raft) { r.Role = n })
		}
		for _, n := range []int{-1, 6, 1<<32 + 2} {
			not(name+", Leader "+said(n), r, func(r *api.Raft) { r.Leader = n })
			not(name+", Vote "+said(n), r, func(r *api.Raft) { r.Vote = n })
		}
	}
	not("Commit behind the end", waiting(), func(r *api.Raft) { r.Commit = 7 })
	return out
}

// wrongRoles may not be for their Role.
func wrongRoles() []named {
	var out []named
	not := func(name string, r api.Raft, do func(r *api.Raft)) {
		out = append(out, named{name, but(r, do), false})
	}
	young := func(r *api.Raft) { r.Term, r.Log, r.Commit = 0, api.Log{}, 0 }
	peers := leading().Peers
	for _, r := range []api.Raft{waiting(), led()} {
		not("a follower of itself", r, func(r *api.Raft) { r.Leader = 1 })
		not("a follower with Votes", r, func(r *api.Raft) { r.Votes = []int{1} })
		not("a follower with peers", r, func(r *api.Raft) { r.Peers = peers })
	}
	not("standing, Leader another one", standing(), func(r *api.Raft) { r.Leader = 2 })
	not("standing, Leader itself", standing(), func(r *api.Raft) { r.Leader = 1 })
	not("standing, Vote nobody", standing(), func(r *api.Raft) { r.Vote = 0 })
	not("standing, Vote another one", standing(), func(r *api.Raft) { r.Vote, r.Votes = 2, []int{1, 2} })
	not("standing, Term 0", standing(), young)
	for _, votes := range [][]int{nil, {2}, {2, 3}, {0, 1}, {1, 1}, {1, 6}, {2, 1}, {1, 3, 2}, {-1, 1}, {1, 2, 2}, {1, 2, 3, 4, 5, 6}} {
		not("standing, Votes "+said(votes), standing(), func(r *api.Raft) { r.Votes = votes })
	}
	not("standing, with peers", standing(), func(r *api.Raft) { r.Peers = peers })
	not("leading, Leader nobody", leading(), func(r *api.Raft) { r.Leader = 0 })
	not("leading, Leader another one", leading(), func(r *api.Raft) { r.Leader = 2 })
	not("leading, Vote nobody", leading(), func(r *api.Raft) { r.Vote = 0 })
	not("leading, Vote another one", leading(), func(r *api.Raft) { r.Vote = 2 })
	not("leading, Term 0", leading(), func(r *api.Raft) {
		young(r)
		for i := range r.Peers {
			r.Peers[i].Next, r.Peers[i].Match = 1, 0
		}
	})
	not("leading, with Votes", leading(), func(r *api.Raft) { r.Votes = []int{1} })
	return append(out, wrongPeers()...)
}

func wrongPeers() []named {
	var out []named
	not := func(name string, do func(list []api.Peer) []api.Peer) {
		out = append(out, named{"leading, peers: " + name, but(leading(), func(r *api.Raft) { r.Peers = do(r.Peers) }), false})
	}
	not("none", func(list []api.Peer) []api.Peer { return nil })
	not("the last one missing", func(list []api.Peer) []api.Peer { return list[:3] })
	not("the first one missing", func(list []api.Peer) []api.Peer { return list[1:] })
	not("itself among them", func(list []api.Peer) []api.Peer { return append([]api.Peer{{Who: 1, Next: 1}}, list...) })
	not("itself in another one's place", func(list []api.Peer) []api.Peer { return append([]api.Peer{{Who: 1, Next: 1}}, list[1:]...) })
	not("6 behind them", func(list []api.Peer) []api.Peer { return append(list, api.Peer{Who: 6, Next: 1}) })
	not("the last one twice", func(list []api.Peer) []api.Peer { return append(list, list[3]) })
	not("one twice", func(list []api.Peer) []api.Peer { list[1] = list[0]; return list })
	not("falling", func(list []api.Peer) []api.Peer { slices.Reverse(list); return list })
	not("two that fall", func(list []api.Peer) []api.Peer { list[1], list[2] = list[2], list[1]; return list })
	not("many", func(list []api.Peer) []api.Peer { return slices.Repeat(list, 1000) })
	for i := range 4 {
		to := func(name string, do func(p *api.Peer)) {
			not(said(i)+" with "+name, func(list []api.Peer) []api.Peer { do(&list[i]); return list })
		}
		for _, n := range []int{0, 1, -1, 6, 258} {
			to("Who "+said(n), func(p *api.Peer) { p.Who = n })
		}
		to("Next 0", func(p *api.Peer) { p.Next, p.Match = 0, 0 })
		to("Next two behind the end", func(p *api.Peer) { p.Next = 9 })
		to("Next 2^64 - 1", func(p *api.Peer) { p.Next = top })
		to("Match as Next", func(p *api.Peer) { p.Match = p.Next })
		to("Match behind Next", func(p *api.Peer) { p.Match = p.Next + 1 })
		to("Match 2^64 - 1", func(p *api.Peer) { p.Match = top })
		for _, n := range []int{math.MinInt, -1, 17, 256, math.MaxInt} {
			to("Quiet "+said(n), func(p *api.Peer) { p.Quiet = n })
		}
	}
	return out
}

// wrong are servers that may not be, each for one reason.
func wrong() []named {
	return slices.Concat(wrongStarts(), wrongCounts(), wrongRoles(), []named{{"nothing", api.Raft{}, false}})
}

// right are servers that just may be.
func right() []named {
	var out []named
	is := func(name string, r api.Raft, do func(r *api.Raft)) {
		out = append(out, named{name, but(r, do), false})
	}
	for name, r := range roles() {
		is(name, r, func(r *api.Raft) {})
		is(name+", Commit at the base", r, func(r *api.Raft) { r.Commit = 2 })
		is(name+", Commit at the end", r, func(r *api.Raft) { r.Commit = r.Log.Base.Index + uint64(len(r.Log.Entries)) })
		is(name+", Clock 0", r, func(r *api.Raft) { r.Clock = 0 })
		is(name+", Clock at Limit", r, func(r *api.Raft) { r.Clock = 6 })
		is(name+", least Limit", r, func(r *api.Raft) { r.Clock, r.Limit = 4, 4 })
		is(name+", greatest Limit", r, func(r *api.Raft) { r.Clock, r.Limit = 16, 16 })
		is(name+", MaxTerm", r, func(r *api.Raft) { r.Term = 1 << 62 })
		is(name+", the log's Term", r, func(r *api.Raft) { r.Term = 5 })
		is(name+", not a member", r, func(r *api.Raft) { r.Conf = of(2, 4) })
		is(name+", all members", r, func(r *api.Raft) { r.Conf = of(1, 2, 3, 4, 5) })
		is(name+", two changes", r, func(r *api.Raft) { r.Log.Entries[0], r.Log.Entries[2] = change(1, 5), change(2, 1, 2, 3, 4, 5) })
		is(name+", empty lists", r, func(r *api.Raft) {
			r.Votes, r.Peers = append([]int{}, r.Votes...), append([]api.Peer{}, r.Peers...)
		})
	}
	for n := range 6 {
		is("waiting, Vote "+said(n), waiting(), func(r *api.Raft) { r.Vote = n })
		if n != 1 {
			is("led by "+said(n), led(), func(r *api.Raft) { r.Leader = n })
		}
		is("server 4, led", led(), func(r *api.Raft) { r.Me = 4 })
		is("a new one, Vote "+said(n), waiting(), func(r *api.Raft) { r.Term, r.Log, r.Commit, r.Vote = 0, api.Log{}, 0, n })
	}
	is("the log's own Term", waiting(), func(r *api.Raft) { r.Term = 4 })
	is("16 entries", waiting(), func(r *api.Raft) { r.Log.Entries = alike(16, 5) })
	is("the greatest index", waiting(), func(r *api.Raft) { r.Log.Base, r.Commit = at(top-5, 1), top-1 })
	for _, votes := range [][]int{{1}, {1, 5}, {1, 2, 3, 4, 5}} {
		is("standing, Votes "+said(votes), standing(), func(r *api.Raft) { r.Votes = votes })
	}
	is("standing as 5", standing(), func(r *api.Raft) { r.Me, r.Vote, r.Votes = 5, 5, []int{2, 5} })
	for i := range 4 {
		is("leading, a Match just below Next", leading(), func(r *api.Raft) { r.Peers[i].Match = r.Peers[i].Next - 1 })
		is("leading, least Next", leading(), func(r *api.Raft) { r.Peers[i].Next, r.Peers[i].Match = 1, 0 })
		is("leading, greatest Next", leading(), func(r *api.Raft) { r.Peers[i].Next, r.Peers[i].Match = 8, 7 })
		is("leading, greatest Quiet", leading(), func(r *api.Raft) { r.Peers[i].Quiet = 16 })
		is("leading as another one", leading(), func(r *api.Raft) {
			r.Me, r.Vote, r.Leader, r.Peers[i].Who = i+2, i+2, i+2, 1
			slices.SortFunc(r.Peers, byWho)
		})
	}
	return out
}

func byWho(a, b api.Peer) int {
	return a.Who - b.Who
}

// P9.1: what just may be.
func TestCheckOfServersThatMayBe(t *testing.T) {
	for _, q := range right() {
		if err := raft.Check(q.r); err != api.OK || !modelMayBe(q.r) {
			t.Errorf("Check of %s: %d, %s", q.name, err, said(q.r))
		}
	}
}

// P9.1: ErrRaft is 190, and the first answer of each call that takes a server; of nothing else is there anything.
func TestServersThatMayNotBe(t *testing.T) {
	for _, q := range wrong() {
		if modelMayBe(q.r) {
			t.Errorf("the model takes %s", q.name)
		}
		if err := raft.Check(q.r); err != 190 {
			t.Errorf("Check of %s: %d", q.name, err)
		}
		if c, err := raft.Force(q.r); err != 190 || len(c.Members) > 0 {
			t.Errorf("Force of %s: %v %d", q.name, c, err)
		}
		for _, limit := range []int{4, 16, 3, 17} {
			if r, sent, err := raft.Tick(q.r, limit); err != 190 || said(r) != said(api.Raft{}) || len(sent) > 0 {
				t.Errorf("Tick of %s: %s %v %d", q.name, said(r), sent, err)
			}
		}
		for _, m := range append(kinds(5), api.Msg{}, vote(1, 5, at(1, 1))) {
			m.To = q.r.Me
			if r, sent, there, err := raft.Take(q.r, m); err != 190 || said(r) != said(api.Raft{}) || len(sent) > 0 || there {
				t.Errorf("Take of %s: %s %v %v %d", q.name, said(r), sent, there, err)
			}
		}
		for kind := range 5 {
			if r, sent, place, err := raft.Propose(q.r, kind, says(1, 2)); err != 190 || said(r) != said(api.Raft{}) || len(sent) > 0 || place != at(0, 0) {
				t.Errorf("Propose of %s: %s %v %v %d", q.name, said(r), sent, place, err)
			}
		}
		for _, index := range []uint64{0, 2, q.r.Commit, q.r.Commit + 1, top} {
			if r, err := raft.Compact(q.r, index); err != 190 || said(r) != said(api.Raft{}) {
				t.Errorf("Compact of %s: %s %d", q.name, said(r), err)
			}
		}
	}
}

// P9.2: what Start is given may not be: ErrArg.
func TestStartOfWhatMayNotBe(t *testing.T) {
	for _, q := range wrong() {
		r := q.r
		if !q.starts {
			continue
		}
		if out, err := raft.Start(r.Me, r.Term, r.Vote, r.Log, r.Conf, r.Limit); err != api.ErrArg || said(out) != said(api.Raft{}) {
			t.Errorf("Start of %s: %s %d", q.name, said(out), err)
		}
	}
}

// unlike are servers that are each another one than that, by one field.
func unlike(r api.Raft) []api.Raft {
	all := []func(r *api.Raft){
		func(r *api.Raft) { r.Me++ }, func(r *api.Raft) { r.Term++ }, func(r *api.Raft) { r.Vote++ },
		func(r *api.Raft) { r.Log.Base.Index++ }, func(r *api.Raft) { r.Log.Base.Term++ },
		func(r *api.Raft) { r.Log.Entries[3].Term++ }, func(r *api.Raft) { r.Log.Entries[0].Kind++ }, func(r *api.Raft) { r.Log.Entries[2].Data[1]++ },
		func(r *api.Raft) { r.Log.Entries[2].Data = nil }, func(r *api.Raft) { r.Log.Entries[0].Data = append(r.Log.Entries[0].Data, 0) },
		func(r *api.Raft) { r.Log.Entries = r.Log.Entries[:3] }, func(r *api.Raft) { r.Log.Entries = append(r.Log.Entries, api.Entry{}) },
		func(r *api.Raft) { r.Conf.Members[2]++ }, func(r *api.Raft) { r.Conf.Members = r.Conf.Members[:2] },
		func(r *api.Raft) { r.Conf.Members = nil }, func(r *api.Raft) { r.Conf.Members = append(r.Conf.Members, 0) },
		func(r *api.Raft) { r.Commit++ }, func(r *api.Raft) { r.Role++ }, func(r *api.Raft) { r.Leader-- }, func(r *api.Raft) { r.Clock++ },
		func(r *api.Raft) { r.Limit-- }, func(r *api.Raft) { r.Votes = append(r.Votes, 0) }, func(r *api.Raft) { r.Peers = append(r.Peers, api.Peer{}) },
	}
	if len(r.Votes) > 0 {
		all = append(all, func(r *api.Raft) { r.Votes[0]++ }, func(r *api.Raft) { r.Votes = nil })
	}
	if len(r.Peers) > 0 {
		all = append(all, func(r *api.Raft) { r.Peers[0].Who++ }, func(r *api.Raft) { r.Peers[3].Next++ }, func(r *api.Raft) { r.Peers[1].Match++ },
			func(r *api.Raft) { r.Peers[2].Quiet++ }, func(r *api.Raft) { r.Peers = r.Peers[:3] }, func(r *api.Raft) { r.Peers = nil })
	}
	var out []api.Raft
	for _, do := range all {
		out = append(out, but(r, do))
	}
	return out
}

// P9.1: Same asks each field, whatever the servers are.
func TestSame(t *testing.T) {
	var all []named
	for _, q := range append(right(), wrong()...) {
		if len(all) == 0 || said(all[len(all)-1].r) != said(q.r) {
			all = append(all, q)
		}
	}
	for _, q := range all {
		if !raft.Same(q.r, deep(q.r)) || !raft.Same(deep(q.r), q.r) {
			t.Errorf("%s is not the same as itself", q.name)
		}
	}
	for name, r := range roles() {
		for i, other := range unlike(r) {
			if raft.Same(r, other) || raft.Same(other, r) || !raft.Same(other, deep(other)) {
				t.Errorf("%s is the same as another one: %d", name, i)
			}
		}
	}
	bare := waiting()
	full := but(bare, func(r *api.Raft) { r.Votes, r.Peers = []int{}, []api.Peer{} })
	if !raft.Same(bare, full) || !raft.Same(full, bare) || !raft.Same(api.Raft{}, api.Raft{Log: behind(at(0, 0), []api.Entry{}...), Conf: of([]int{}...)}) {
		t.Error("nil and empty are not the same")
	}
	if raft.Same(api.Raft{}, waiting()) {
		t.Error("nothing is the same as a server")
	}
}

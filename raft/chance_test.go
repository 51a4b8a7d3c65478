package raft_test

import (
	"slices"
	"testing"

	"tallyhouse/api"
	"tallyhouse/frame"
	"tallyhouse/raft"
)

// chance picks by a row that is always the same.
type chance uint64

// pick is a number below n.
func (c *chance) pick(n int) int {
	*c = *c*6364136223846793005 + 1442695040888963407
	return int(uint64(*c) >> 33 % uint64(n))
}

// oneIn is true one time in n.
func (c *chance) oneIn(n int) bool {
	return c.pick(n) == 0
}

// members are some members.
func (c *chance) members() []int {
	bits := 1 + c.pick(31)
	var out []int
	for n := 1; n <= 5; n++ {
		if bits>>(n-1)&1 == 1 {
			out = append(out, n)
		}
	}
	return out
}

// entry is one of that Term.
func (c *chance) entry(term uint64) api.Entry {
	switch c.pick(6) {
	case 0:
		return none(term)
	case 1:
		return change(term, c.members()...)
	}
	return command(term, string(rune('a'+c.pick(3))))
}

func (c *chance) log() api.Log {
	var l api.Log
	if !c.oneIn(3) {
		l.Base = at(uint64(1+c.pick(4)), uint64(1+c.pick(3)))
	}
	if c.oneIn(40) {
		l.Base.Index, l.Base.Term = top-5-uint64(c.pick(3)), max(l.Base.Term, 1)
	}
	term, count := max(l.Base.Term, 1), c.pick(6)
	if c.oneIn(8) {
		count = 8 + c.pick(9)
	}
	for range count {
		term += uint64(c.pick(5) / 4)
		if _, right := end(l.Base, len(l.Entries)+1); right {
			l.Entries = append(l.Entries, c.entry(term))
		}
	}
	return l
}

// end is the index so many entries behind a base, and whether there is one.
func end(base api.At, count int) (uint64, bool) {
	return base.Index + uint64(count), fits(base, count)
}

// server is one that may be.
func (c *chance) server() api.Raft {
	r := api.Raft{Me: 1 + c.pick(5), Log: c.log(), Conf: of(c.members()...), Limit: 4 + c.pick(4)}
	if c.oneIn(20) {
		r.Limit = 4 + c.pick(13)
	}
	m := model{Raft: r}
	last := m.last()
	r.Term = max(last.Term+uint64(c.pick(3)/2), uint64(c.pick(2)))
	r.Commit = r.Log.Base.Index + uint64(c.pick(len(r.Log.Entries)+1))
	r.Clock = c.pick(r.Limit + 1)
	if c.oneIn(30) {
		r.Term = api.MaxTerm - uint64(c.pick(2))
	}
	switch role := c.pick(5); {
	case r.Term == 0 || role < 2:
		r.Role, r.Vote, r.Leader = 1, c.pick(6), c.pick(6)
		if r.Leader == r.Me {
			r.Leader = 0
		}
	case role == 2:
		r.Role, r.Vote = 2, r.Me
		r.Votes = slices.Sorted(slices.Values(append(without(c.members(), r.Me), r.Me)))
	default:
		r.Role, r.Vote, r.Leader = 3, r.Me, r.Me
		r.Peers = c.peers(r.Me, last.Index)
	}
	return r
}

func (c *chance) peers(me int, last uint64) []api.Peer {
	var out []api.Peer
	for _, who := range without([]int{1, 2, 3, 4, 5}, me) {
		p := api.Peer{Who: who, Quiet: c.pick(5) * 4}
		p.Quiet -= min(p.Quiet, c.pick(2))
		p.Next = max(1, last+1-min(last, uint64(c.pick(10))))
		p.Match = p.Next - 1 - min(p.Next-1, uint64(c.pick(4)))
		if c.oneIn(4) {
			p.Match = 0
		}
		out = append(out, p)
	}
	return out
}

// place is one about the log, of a Term that is at most that.
func (c *chance) place(r api.Raft, term uint64) api.At {
	m := model{Raft: r}
	index := r.Log.Base.Index - min(r.Log.Base.Index, 3) + uint64(c.pick(len(r.Log.Entries)+6))
	place := m.place(index)
	if place == at(0, 0) || c.oneIn(4) {
		place = at(index, max(1, place.Term+uint64(c.pick(3)))-uint64(c.pick(2)))
	}
	place.Term = min(place.Term, term)
	if place.Index == 0 || place.Term == 0 {
		return api.At{}
	}
	return place
}

// msg is a message to a server, most often one that may be.
func (c *chance) msg(r api.Raft) api.Msg {
	m := api.Msg{Kind: 1 + c.pick(5), From: 1 + c.pick(5), To: r.Me, Term: max(1, r.Term+uint64(c.pick(9)/4)-1)}
	if r.Term == 0 {
		m.Term = uint64(1 + c.pick(2))
	}
	if m.From == r.Me {
		m.From = 1 + r.Me%5
	}
	switch m.Kind {
	case 1:
		m.Place = c.place(r, m.Term)
	case 2:
		m.Ok = !c.oneIn(3)
	case 3:
		m.Place, m.Commit = c.place(r, m.Term), r.Commit-min(r.Commit, 2)+uint64(c.pick(9))
		m.Entries = c.offered(r, m.Place, m.Term)
	case 4:
		m.Ok, m.Place = c.oneIn(2), c.place(r, m.Term)
	case 5:
		m.Place, m.Conf, m.Data = c.place(r, m.Term), of(c.members()...), make([]byte, c.pick(3))
	}
	return m
}

// offered are entries behind a place, up to some index the same as the log's, perhaps.
func (c *chance) offered(r api.Raft, place api.At, most uint64) []api.Entry {
	m := model{Raft: r}
	var out []api.Entry
	term := max(place.Term, 1)
	parts := c.pick(9)
	for i := range c.pick(9) {
		index := place.Index + uint64(i) + 1
		own := m.place(index)
		switch {
		case i < parts && index > r.Log.Base.Index && own.Term >= term && own.Term <= most:
			term = own.Term
			out = append(out, r.Log.Entries[index-r.Log.Base.Index-1])
		default:
			term = min(most, term+uint64(c.pick(5)/4))
			out = append(out, c.entry(term))
		}
	}
	return deepEntries(out)
}

// holds asks of what came of something what P9.7 says of any server.
func holds(t *testing.T, was, r api.Raft, sent []api.Msg) {
	t.Helper()
	if raft.Check(r) != api.OK || !modelMayBe(r) {
		t.Fatalf("of %s comes what may not be: %s", said(was), said(r))
	}
	for _, m := range sent {
		if frame.Check(m) != api.OK || m.From != was.Me || m.Term != r.Term {
			t.Fatalf("%s sends what may not be: %s", said(was), said(m))
		}
	}
	if r.Me != was.Me || r.Term < was.Term || r.Commit < was.Commit {
		t.Fatalf("of %s comes %s", said(was), said(r))
	}
	if r.Term == was.Term && r.Vote != was.Vote && was.Vote != 0 {
		t.Fatalf("of %s comes another vote: %s", said(was), said(r))
	}
}

// P9.3 to P9.6: whatever happens to whatever server, against the chapter's words.
func TestAgainstTheModel(t *testing.T) {
	seen, errs := map[string]int{}, map[api.Errno]int{}
	for run := range 150000 {
		c := chance(run)
		r := c.server()
		if raft.Check(r) != api.OK {
			t.Fatalf("%d may not be: %s", run, said(r))
		}
		m := modelOf(r)
		var out api.Raft
		var sent []api.Msg
		var there bool
		var place, wanted api.At
		var err, wrong api.Errno
		what := ""
		switch c.pick(8) {
		case 0:
			limit := 3 + c.pick(15)
			what = "Tick " + said(limit)
			if wrong = api.ErrArg; limit >= 4 && limit <= 16 {
				m.tick(limit)
				wrong = api.OK
			}
			out, sent, err = raft.Tick(r, limit)
		case 1:
			kind, data := 1+c.pick(4), says(c.members()...)
			if kind == 3 && !c.oneIn(5) {
				data = says(m.force()...)
			}
			what = "Propose " + said(kind) + said(data)
			wanted, wrong = m.propose(kind, data)
			out, sent, place, err = raft.Propose(r, kind, data)
		case 2:
			index := r.Log.Base.Index - min(r.Log.Base.Index, 1) + uint64(c.pick(int(r.Commit-r.Log.Base.Index)+3))
			what = "Compact " + said(index)
			wrong = m.compact(index)
			out, err = raft.Compact(r, index)
		default:
			msg := c.msg(r)
			what = "Take " + said(msg)
			if wrong = api.ErrMsg; modelMsg(msg, r.Me) {
				m.take(msg)
				wrong = api.OK
			}
			out, sent, there, err = raft.Take(r, msg)
		}
		if wrong != api.OK {
			m = &model{}
		} else if err == api.OK {
			holds(t, r, out, sent)
		}
		if err != wrong || said(out) != said(m.Raft) || said(sent) != said(m.sent) || there != m.there || place != wanted {
			t.Fatalf("%d: %s at\n%s: %d, not %d\n       %s\n   not %s\n  sent %s\n   not %s\n%v %v", run, what, said(r), err, wrong, said(out), said(m.Raft), said(sent), said(m.sent), there, place)
		}
		errs[err]++
		for _, x := range m.by {
			seen[x]++
		}
	}
	wasSeen(t, seen, errs)
}

// wasSeen fails the test, if something was not come by often enough.
func wasSeen(t *testing.T, seen map[string]int, errs map[api.Errno]int) {
	for _, x := range []string{
		"snap is sent", "more than 8 to send", "elected by itself", "stands", "no room to lead", "leads", "not of its Term", "commit moves",
		"no member any more", "a member till then", "waits", "does not stand", "hears too few", "beats", "does not beat", "holds back", "a Term above",
		"no vote: old", "no vote: another one's", "no vote: its log is older", "vote", "no use for a vote", "is voted for",
		"of an old leader", "two leaders", "has not the place", "agrees up to the base", "commit follows", "parts at or below Commit", "a Term that falls",
		"parts above Commit", "more than there is room for", "puts in", "has them all", "nothing to install", "installs at a place that it has",
		"installs at a new place", "no use for an answer", "an answer that is old, or too far", "sends more", "sends no more",
		"refused below the base", "refused at or below Match", "goes back", "does not go back",
	} {
		if seen[x] < 20 {
			t.Errorf("%s: %d times only", x, seen[x])
		}
		delete(seen, x)
	}
	if len(seen) > 0 {
		t.Errorf("not named: %v", seen)
	}
	for _, err := range []api.Errno{api.OK, api.ErrArg, api.ErrFull, api.ErrLead, api.ErrChange, api.ErrMsg} {
		if errs[err] < 20 {
			t.Errorf("error %d: %d times only", err, errs[err])
		}
	}
}

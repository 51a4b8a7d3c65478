package raft_test

import (
	"fmt"
	"math"
	"slices"
	"testing"

	"tallyhouse/api"
	"tallyhouse/raft"
)

const top = math.MaxUint64

func at(index, term uint64) api.At {
	return api.At{Index: index, Term: term}
}

func of(members ...int) api.Conf {
	return api.Conf{Members: members}
}

// says is the bytes of members, whether these may be or not.
func says(members ...int) []byte {
	b := []byte{byte(len(members))}
	for _, n := range members {
		b = append(b, byte(n))
	}
	return b
}

func none(term uint64) api.Entry {
	return api.Entry{Term: term, Kind: api.EntNone}
}

func command(term uint64, data string) api.Entry {
	return api.Entry{Term: term, Kind: api.EntCommand, Data: []byte(data)}
}

func change(term uint64, members ...int) api.Entry {
	return api.Entry{Term: term, Kind: api.EntConf, Data: says(members...)}
}

// commands are entries of these Terms.
func commands(terms ...uint64) []api.Entry {
	var out []api.Entry
	for _, term := range terms {
		out = append(out, command(term, "of "+string(rune('0'+term%10))))
	}
	return out
}

// alike is so many entries of one Term.
func alike(count int, term uint64) []api.Entry {
	return commands(slices.Repeat([]uint64{term}, count)...)
}

func behind(base api.At, entries ...api.Entry) api.Log {
	return api.Log{Base: base, Entries: entries}
}

// said says a value whole; nil and empty lists are one.
func said(x any) string {
	return fmt.Sprintf("%+v", x)
}

func deepEntries(list []api.Entry) []api.Entry {
	out := slices.Clone(list)
	for i := range out {
		out[i].Data = slices.Clone(out[i].Data)
	}
	return out
}

func deepLog(l api.Log) api.Log {
	return api.Log{Base: l.Base, Entries: deepEntries(l.Entries)}
}

func deepConf(c api.Conf) api.Conf {
	return of(slices.Clone(c.Members)...)
}

func deep(r api.Raft) api.Raft {
	r.Log, r.Conf = deepLog(r.Log), deepConf(r.Conf)
	r.Votes, r.Peers = slices.Clone(r.Votes), slices.Clone(r.Peers)
	return r
}

// but is a server with something else about it.
func but(r api.Raft, do ...func(r *api.Raft)) api.Raft {
	r = deep(r)
	for _, f := range do {
		f(&r)
	}
	return r
}

// waiting is server 1 of 1 2 3, which knows no leader. Its log keeps 3 to 6, of the Terms 1 2 2 4, and has settled 4.
func waiting() api.Raft {
	return api.Raft{
		Me: 1, Term: 5, Log: behind(at(2, 1), commands(1, 2, 2, 4)...), Conf: of(1, 2, 3), Commit: 4,
		Role: api.RoleFollower, Clock: 2, Limit: 6,
	}
}

// led is the same one, led by 2.
func led() api.Raft {
	return but(waiting(), func(r *api.Raft) { r.Leader, r.Vote = 2, 2 })
}

// standing is the same one, that stands.
func standing() api.Raft {
	return but(waiting(), func(r *api.Raft) { r.Role, r.Vote, r.Votes = api.RoleStanding, 1, []int{1} })
}

// leading is the same one, that leads; 7 is of its Term.
func leading() api.Raft {
	return but(waiting(), func(r *api.Raft) {
		r.Role, r.Leader, r.Vote, r.Clock = api.RoleLeading, 1, 1, 0
		r.Log.Entries = append(r.Log.Entries, none(5))
		r.Peers = []api.Peer{{Who: 2, Next: 7}, {Who: 3, Next: 6, Match: 2, Quiet: 3}, {Who: 4, Next: 1}, {Who: 5, Next: 8}}
	})
}

// alone is server 1 of itself, that leads, and has settled all.
func alone() api.Raft {
	return but(leading(), func(r *api.Raft) { r.Conf, r.Commit = of(1), 7 })
}

// settled is the same as leading, that has settled all, as 2 has it.
func settled() api.Raft {
	return but(leading(), func(r *api.Raft) { r.Commit, r.Peers[0] = 7, api.Peer{Who: 2, Next: 8, Match: 7} })
}

// roles are servers of each Role.
func roles() map[string]api.Raft {
	return map[string]api.Raft{"waiting": waiting(), "led": led(), "standing": standing(), "leading": leading()}
}

// to1 is a message to server 1.
func to1(kind, from int, term uint64) api.Msg {
	return api.Msg{Kind: kind, From: from, To: 1, Term: term}
}

func vote(from int, term uint64, place api.At) api.Msg {
	m := to1(api.MsgVote, from, term)
	m.Place = place
	return m
}

func voted(from int, term uint64, ok bool) api.Msg {
	m := to1(api.MsgVoted, from, term)
	m.Ok = ok
	return m
}

func offer(from int, term uint64, place api.At, commit uint64, entries ...api.Entry) api.Msg {
	m := to1(api.MsgAppend, from, term)
	m.Place, m.Commit, m.Entries = place, commit, entries
	return m
}

func appended(from int, term uint64, ok bool, place api.At) api.Msg {
	m := to1(api.MsgAppended, from, term)
	m.Ok, m.Place = ok, place
	return m
}

func snap(from int, term uint64, place api.At, members ...int) api.Msg {
	m := to1(api.MsgSnap, from, term)
	m.Place, m.Conf = place, of(members...)
	return m
}

// kinds are messages of each Kind from 2, in a Term, that the servers above have use for.
func kinds(term uint64) []api.Msg {
	return []api.Msg{
		vote(2, term, at(9, min(term, 5))), voted(2, term, true), offer(2, term, at(5, 2), 6, commands(4)...),
		appended(2, term, true, at(7, min(term, 5))), appended(2, term, false, at(4, 2)), snap(2, term, at(9, min(term, 5)), 1, 2),
	}
}

// back is what server 1 sends, in the other direction.
func back(m api.Msg) api.Msg {
	m.To, m.From = m.From, 1
	return m
}

// backs are several of them.
func backs(list ...api.Msg) []api.Msg {
	var out []api.Msg
	for _, m := range list {
		out = append(out, back(m))
	}
	return out
}

// row is a server to which something happens, and what comes of it.
type row struct {
	name  string
	r     api.Raft
	msg   api.Msg
	want  api.Raft
	sent  []api.Msg
	there bool
}

// ask holds a row against what was answered.
func (q row) ask(t *testing.T, r api.Raft, sent []api.Msg, there bool, err api.Errno) {
	t.Helper()
	if err != api.OK || said(r) != said(q.want) || said(sent) != said(q.sent) || there != q.there {
		t.Errorf("%s: %d\nserver %s\n   not %s\n  sent %s\n   not %s\ninstall %v", q.name, err, said(r), said(q.want), said(sent), said(q.sent), there)
	}
	if err := raft.Check(r); err != api.OK {
		t.Errorf("%s: what comes of it may not be", q.name)
	}
}

// take has each row's server take its message.
func take(t *testing.T, rows []row) {
	t.Helper()
	for _, q := range rows {
		if err := raft.Check(q.r); err != api.OK {
			t.Fatalf("%s: the server may not be", q.name)
		}
		r, sent, there, err := raft.Take(q.r, q.msg)
		q.ask(t, r, sent, there, err)
	}
}

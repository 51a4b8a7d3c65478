package raft_test

import (
	"testing"

	"tallyhouse/api"
	"tallyhouse/raft"
)

// wrongMsgs are messages that may not be, or not come to server 1.
func wrongMsgs() []api.Msg {
	var out []api.Msg
	not := func(m api.Msg, do func(m *api.Msg)) {
		do(&m)
		out = append(out, m)
	}
	out = append(out, api.Msg{}, api.Msg{To: 1})
	for _, m := range append(kinds(5), kinds(6)...) {
		for _, n := range []int{-1, 0, 2, 3, 5, 6, 257} {
			not(m, func(m *api.Msg) { m.To = n })
		}
		for _, n := range []int{-1, 0, 1, 6, 258} {
			not(m, func(m *api.Msg) { m.From = n })
		}
		for _, n := range []uint64{0, 1<<62 + 1, top} {
			not(m, func(m *api.Msg) { m.Term = n })
		}
		for _, n := range []int{-1, 0, 6, 256 + m.Kind} {
			not(m, func(m *api.Msg) { m.Kind = n })
		}
		not(m, func(m *api.Msg) { m.From, m.To = 1, 2 })
		not(m, func(m *api.Msg) { m.Place = at(7, 7) })
		not(m, func(m *api.Msg) { m.Place = at(0, 1) })
		not(m, func(m *api.Msg) { m.Place = at(1, 0) })
		if m.Kind != api.MsgAppend {
			not(m, func(m *api.Msg) { m.Entries = commands(5) })
			not(m, func(m *api.Msg) { m.Commit = 1 })
		}
		if m.Kind != api.MsgSnap {
			not(m, func(m *api.Msg) { m.Conf = of(1, 2) })
			not(m, func(m *api.Msg) { m.Data = []byte{1} })
		}
		if m.Kind != api.MsgVoted && m.Kind != api.MsgAppended {
			not(m, func(m *api.Msg) { m.Ok = true })
		}
	}
	for _, list := range [][]api.Entry{alike(9, 5), commands(1), commands(4, 2), commands(6), {{Term: 5, Kind: 4}}, {{Term: 5}}, {{Term: 5, Kind: api.EntNone, Data: []byte{1}}}, {{Term: 5, Kind: api.EntCommand, Data: make([]byte, 1025)}}} {
		out = append(out, offer(2, 5, at(5, 2), 4, list...))
	}
	return append(out, offer(2, 5, at(top-1, 5), 4, none(5)), snap(2, 5, at(0, 0), 1, 2))
}

// wrongSayings are messages of which members may not be.
func wrongSayings() []api.Msg {
	var out []api.Msg
	for _, members := range wrongMembers() {
		out = append(out, snap(2, 5, at(9, 5), members...), snap(2, 6, at(3, 1), members...), snap(2, 4, at(9, 4), members...))
	}
	for _, data := range wrongData() {
		e := api.Entry{Term: 5, Kind: api.EntConf, Data: data}
		out = append(out, offer(2, 5, at(6, 4), 4, e), offer(2, 5, at(6, 4), 4, commands(5)[0], e), offer(2, 5, at(6, 4), 4, e, change(5, 1)), offer(2, 5, at(60, 4), 4, change(5, 1), e),
			offer(2, 6, at(1, 1), 4, e), offer(3, 5, at(3, 1), 4, e))
	}
	return out
}

// P9.4: ErrMsg, whatever the Role is, also where such a message would change nothing.
func TestTakeOfWhatMayNotBe(t *testing.T) {
	for name, r := range roles() {
		for _, m := range append(wrongMsgs(), wrongSayings()...) {
			out, sent, there, err := raft.Take(r, m)
			if err != 170 || said(out) != said(api.Raft{}) || len(sent) > 0 || there {
				t.Errorf("%s takes %s: %s %s %d", name, said(m), said(out), said(sent), err)
			}
		}
	}
}

// P9.4: of a command the Data are not asked, and members of all numbers may be said.
func TestTakeOfWhatMayBe(t *testing.T) {
	for name, r := range roles() {
		for _, m := range append(kinds(5), kinds(6)...) {
			if _, _, _, err := raft.Take(r, m); err != api.OK {
				t.Errorf("%s takes %s: %d", name, said(m), err)
			}
		}
		for _, m := range []api.Msg{
			offer(2, 5, at(6, 4), 4, command(5, "\x01"), change(5, 3), change(5, 1, 2, 3, 4, 5)), offer(2, 5, at(6, 4), top, alike(8, 5)...),
			snap(2, 5, at(9, 5), 5), snap(2, 5, at(9, 5), 1, 2, 3, 4, 5), snap(5, 5, at(top-1, 5), 2, 4),
		} {
			if _, _, _, err := raft.Take(r, m); err != api.OK {
				t.Errorf("%s takes %s: %d", name, said(m), err)
			}
		}
	}
	for me := 1; me <= 5; me++ {
		r := but(waiting(), func(r *api.Raft) { r.Me = me })
		for to := 1; to <= 5; to++ {
			m := vote(1+me%5, 6, at(6, 4))
			m.To = to
			if _, _, _, err := raft.Take(r, m); (err == api.OK) != (me == to) {
				t.Errorf("%d takes what comes to %d: %d", me, to, err)
			}
		}
	}
}

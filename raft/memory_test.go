package raft_test

import (
	"slices"
	"testing"

	"tallyhouse/api"
	"tallyhouse/raft"
)

// roomy is a list with room behind it, in which something stands.
func roomy[T any](list []T, behind ...T) []T {
	return append(slices.Clip(slices.Clone(list)), behind...)[:len(list)]
}

// whole is a list with what stands in its room.
func whole[T any](list []T) []T {
	return slices.Clone(list[:cap(list)])
}

// spoil writes over a list, all its room included.
func spoil[T any](list []T, with T) {
	list = list[:cap(list)]
	for i := range list {
		list[i] = with
	}
}

func roomyEntries(list []api.Entry) []api.Entry {
	out := roomy(list, command(9, "room"), none(9))
	for i := range out {
		out[i].Data = roomy(out[i].Data, 0xEE, 0xEF)
	}
	return out
}

func roomyRaft(r api.Raft) api.Raft {
	r.Log.Entries = roomyEntries(r.Log.Entries)
	r.Conf = of(roomy(r.Conf.Members, 7, 8)...)
	r.Votes = roomy(r.Votes, 7, 8)
	r.Peers = roomy(r.Peers, api.Peer{Who: 77}, api.Peer{Who: 78})
	return r
}

func roomyMsg(m api.Msg) api.Msg {
	m.Entries = roomyEntries(m.Entries)
	m.Conf = of(roomy(m.Conf.Members, 7, 8)...)
	m.Data = roomy(m.Data, 0xEE, 0xEF)
	return m
}

func wholeEntries(list []api.Entry) string {
	out := ""
	for _, e := range whole(list) {
		out += said(e.Term) + said(e.Kind) + said(whole(e.Data)) + " "
	}
	return out
}

// wholeRaft says a server with all the room behind its lists.
func wholeRaft(r api.Raft) string {
	return said(r) + wholeEntries(r.Log.Entries) + said(whole(r.Conf.Members)) + said(whole(r.Votes)) + said(whole(r.Peers))
}

func wholeMsg(m api.Msg) string {
	return said(m) + wholeEntries(m.Entries) + said(whole(m.Conf.Members)) + said(whole(m.Data))
}

func spoilEntries(list []api.Entry) {
	for _, e := range list {
		spoil(e.Data, 0x99)
	}
	spoil(list, command(99, "spoilt"))
}

func spoilRaft(r api.Raft) {
	spoilEntries(r.Log.Entries)
	spoil(r.Conf.Members, 99)
	spoil(r.Votes, 99)
	spoil(r.Peers, api.Peer{Who: 99, Next: 99})
}

func spoilMsg(m api.Msg) {
	spoilEntries(m.Entries)
	spoil(m.Conf.Members, 99)
	spoil(m.Data, 0x99)
}

// answer is all that a call answers.
type answer struct {
	r    api.Raft
	conf api.Conf
	sent []api.Msg
}

// call is a call with its arguments, all in memory of their own.
type call struct {
	name string
	r    api.Raft
	msg  api.Msg
	data []byte
	do   func(c call) answer
}

// calls are such as change much, and send much.
func calls() []call {
	var out []call
	start := func(c call) answer {
		r, _ := raft.Start(c.r.Me, c.r.Term, c.r.Vote, c.r.Log, c.r.Conf, c.r.Limit)
		return answer{r: r}
	}
	force := func(c call) answer {
		conf, _ := raft.Force(c.r)
		return answer{conf: conf}
	}
	tick := func(c call) answer {
		r, sent, _ := raft.Tick(c.r, 4)
		return answer{r: r, sent: sent}
	}
	takes := func(c call) answer {
		r, sent, _, _ := raft.Take(c.r, c.msg)
		return answer{r: r, sent: sent}
	}
	proposes := func(kind int) func(c call) answer {
		return func(c call) answer {
			r, sent, _, _ := raft.Propose(c.r, kind, c.data)
			return answer{r: r, sent: sent}
		}
	}
	compact := func(c call) answer {
		r, _ := raft.Compact(c.r, 3)
		return answer{r: r}
	}
	all := func(r *api.Raft) { r.Conf = of(1, 2, 3, 4, 5) }
	late := func(r *api.Raft) { r.Clock = 6 }
	changed := func(r *api.Raft) { r.Log.Entries[0], r.Log.Entries[3] = change(1, 2, 3), change(4, 1, 2, 3, 4) }
	for name, r := range roles() {
		for _, r := range []api.Raft{r, but(r, all), but(r, changed), but(r, late)} {
			out = append(out, call{name: "Start of " + name, r: r, do: start}, call{name: "Force of " + name, r: r, do: force}, call{name: "Tick of " + name, r: r, do: tick}, call{name: "Compact of " + name, r: r, do: compact})
			out = append(out, call{name: "Propose to " + name, r: r, data: []byte("x"), do: proposes(2)}, call{name: "Propose members to " + name, r: but(r, commitNow(6)), data: says(1, 2), do: proposes(3)})
			for _, m := range append(kinds(5), kinds(6)...) {
				out = append(out, call{name: "Take by " + name, r: r, msg: m, do: takes})
			}
			for _, m := range []api.Msg{offer(2, 5, at(4, 2), 6, change(2, 1, 2), command(5, "y")), offer(2, 5, at(6, 4), 6, change(5, 1, 2), command(5, "z")), snap(2, 5, at(5, 2), 1, 2), snap(2, 6, at(9, 6), 2, 4), appended(4, 5, true, at(1, 1)), appended(4, 5, true, at(3, 1)), appended(5, 5, false, at(4, 2)), voted(3, 5, true)} {
				out = append(out, call{name: "Take by " + name, r: r, msg: m, do: takes})
			}
		}
	}
	return append(out, call{name: "Propose members to settled", r: settled(), data: says(1, 2, 3, 4), do: proposes(3)}, call{name: "Propose to alone", r: alone(), data: []byte("x"), do: proposes(2)})
}

// fresh is the call with arguments that share nothing with it, with room behind each list.
func (c call) fresh() call {
	c.r, c.msg, c.data = roomyRaft(c.r), roomyMsg(c.msg), roomy(c.data, 0xEE, 0xEF)
	return c
}

func (c call) said() string {
	return wholeRaft(c.r) + wholeMsg(c.msg) + said(whole(c.data))
}

// R3: nothing that is handed in is changed, the room behind it neither; a change of it later changes nothing that was answered.
func TestWhatIsHandedIn(t *testing.T) {
	for _, c := range calls() {
		c = c.fresh()
		was := c.said()
		out := c.do(c)
		if c.said() != was {
			t.Errorf("%s changes what it is handed: %s", c.name, was)
		}
		want := said(out)
		spoilRaft(c.r)
		spoilMsg(c.msg)
		spoil(c.data, 0x99)
		if said(out) != want {
			t.Errorf("%s keeps what it is handed: %s", c.name, was)
		}
	}
}

// R3, R5: a change of what was answered changes neither what was handed in nor what is answered next.
func TestWhatIsAnswered(t *testing.T) {
	for _, c := range calls() {
		c = c.fresh()
		was := c.said()
		one, two := c.do(c), c.do(c)
		want := said(one)
		if said(two) != want {
			t.Fatalf("%s answers one thing, and then another one: %s", c.name, was)
		}
		spoilRaft(one.r)
		spoil(one.conf.Members, 99)
		for _, m := range one.sent {
			spoilMsg(m)
		}
		spoil(one.sent, api.Msg{Kind: 99})
		if c.said() != was || said(two) != want || said(c.do(c)) != want {
			t.Errorf("%s answers what others have: %s", c.name, was)
		}
	}
}

// R3: no two parts of one answer share anything: the server, and each message.
func TestPartsOfAnAnswer(t *testing.T) {
	many := 0
	for _, c := range calls() {
		out := c.do(c)
		for i := range out.sent {
			out := c.do(c)
			server, others := said(out.r), said(slices.Delete(slices.Clone(out.sent), i, i+1))
			spoilMsg(out.sent[i])
			if said(out.r) != server || said(slices.Delete(slices.Clone(out.sent), i, i+1)) != others {
				t.Errorf("%s: message %d shares what others have", c.name, i)
			}
			many++
		}
		sent := said(out.sent)
		spoilRaft(out.r)
		if said(out.sent) != sent {
			t.Errorf("%s: the server shares what is sent", c.name)
		}
	}
	if many < 50 {
		t.Errorf("only %d messages", many)
	}
}

// R3: within a server no list is another one's.
func TestListsOfAServer(t *testing.T) {
	for _, c := range calls() {
		out := c.do(c).r
		entries, conf, votes := said(out.Log), said(out.Conf), said(out.Votes)
		spoil(out.Peers, api.Peer{Who: 99})
		spoil(out.Votes, 99)
		if said(out.Conf) != conf || said(out.Log) != entries {
			t.Errorf("%s: Votes share", c.name)
		}
		votes = said(out.Votes)
		spoil(out.Conf.Members, 98)
		if said(out.Votes) != votes || said(out.Log) != entries {
			t.Errorf("%s: Conf shares", c.name)
		}
		for i := range out.Log.Entries {
			rest := said(out.Log.Entries[i+1:])
			spoil(out.Log.Entries[i].Data, 0x97)
			if said(out.Log.Entries[i+1:]) != rest {
				t.Errorf("%s: Data are shared", c.name)
			}
		}
	}
}

package raft

import (
	"tallyhouse/api"
	"tallyhouse/conf"
	"tallyhouse/log"
)

// take does what a message that may be brings.
func (m *machine) take(msg api.Msg) {
	if msg.Kind == api.MsgVote && m.holdsBack() {
		return
	}
	if msg.Term > m.Term {
		m.Term, m.Vote = msg.Term, 0
		m.follow(0)
	}
	brings := [...]func(msg api.Msg){
		api.MsgVote:     m.takeVote,
		api.MsgVoted:    m.takeVoted,
		api.MsgAppend:   m.takeAppend,
		api.MsgAppended: m.takeAppended,
		api.MsgSnap:     m.takeSnap,
	}
	brings[msg.Kind](msg)
}

func (m *machine) takeVote(msg api.Msg) {
	free := m.Vote == 0 || m.Vote == msg.From
	given := msg.Term == m.Term && free && !log.Newer(log.Last(m.Log), msg.Place)
	if given {
		m.Vote, m.Clock = msg.From, 0
	}
	m.send(api.Msg{Kind: api.MsgVoted, Ok: given}, msg.From)
}

func (m *machine) takeVoted(msg api.Msg) {
	if m.Role != api.RoleStanding || msg.Term != m.Term || !msg.Ok {
		return
	}
	if votes, err := conf.Add(api.Conf{Members: m.Votes}, msg.From); err == api.OK {
		m.Votes = votes.Members
	}
	if conf.Majority(m.force(), m.Votes) {
		m.lead()
	}
}

// heeds tells whether what a leader sends is to be looked at; then it follows that leader.
func (m *machine) heeds(msg api.Msg) bool {
	switch {
	case msg.Term < m.Term:
		m.send(api.Msg{Kind: api.MsgAppended}, msg.From)
		return false
	case m.leads():
		return false
	}
	m.follow(msg.From)
	m.Clock = 0
	return true
}

func (m *machine) takeAppend(msg api.Msg) {
	if !m.heeds(msg) {
		return
	}
	met, err := log.Meet(m.Log, msg.Place, msg.Entries)
	if err != api.OK {
		ahead := api.At{Index: max(msg.Place.Index, 1) - 1, Term: msg.Place.Term}
		m.send(api.Msg{Kind: api.MsgAppended, Place: fork(m.Log, ahead)}, msg.From)
		return
	}
	if !m.replace(msg.Place.Index+uint64(met), msg.Entries[met:]) {
		return
	}
	at := m.agrees(msg)
	m.Commit = max(m.Commit, min(msg.Commit, at.Index))
	m.send(api.Msg{Kind: api.MsgAppended, Ok: true, Place: at}, msg.From)
}

// replace puts entries that the log does not have behind that index, in the place of all that stands there, as far as there is room. It tells whether that may be: where nobody cheats, what is settled stays, and no Term falls.
func (m *machine) replace(index uint64, entries []api.Entry) bool {
	if len(entries) == 0 {
		return true
	}
	if index < m.Commit {
		return false
	}
	l, _ := log.Cut(m.Log, index+1)
	room := min(len(entries), api.MaxLog-len(l.Entries))
	l, _, err := log.Extend(l, entries[:room])
	if err != api.OK {
		return false
	}
	m.Log = l
	return true
}

// agrees is how far the log agrees with a message whose entries it has, as far as there was room for them.
func (m *machine) agrees(msg api.Msg) api.At {
	offered := msg.Place.Index + uint64(len(msg.Entries))
	index := max(m.Log.Base.Index, min(offered, log.Last(m.Log).Index))
	return m.place(index)
}

// place is the log's place of that index.
func (m *machine) place(index uint64) api.At {
	term, _ := log.Term(m.Log, index)
	return api.At{Index: index, Term: term}
}

// fork is the fork of a log at a place.
func fork(l api.Log, at api.At) api.At {
	own, last := l.Base, l.Base
	for _, e := range l.Entries {
		own = api.At{Index: own.Index + 1, Term: e.Term}
		if own.Index <= at.Index && own.Term <= at.Term {
			last = own
		}
	}
	return last
}

func (m *machine) takeSnap(msg api.Msg) {
	if !m.heeds(msg) {
		return
	}
	if msg.Place.Index > m.Commit {
		m.install(msg)
	}
	m.send(api.Msg{Kind: api.MsgAppended, Ok: true, Place: m.place(m.Commit)}, msg.From)
}

func (m *machine) install(msg api.Msg) {
	l := api.Log{Base: msg.Place}
	if log.Has(m.Log, msg.Place) {
		l, _ = log.Compact(m.Log, msg.Place.Index)
	}
	m.Log, m.Conf, m.Commit = l, copied(msg.Conf), msg.Place.Index
	m.installs = true
}

func (m *machine) takeAppended(msg api.Msg) {
	if !m.leads() || msg.Term != m.Term {
		return
	}
	p := m.peer(msg.From)
	p.Quiet = 0
	if msg.Ok {
		m.goOn(p, msg.Place.Index)
	} else {
		m.goBack(p, msg.Place)
	}
}

// goOn notes up to which index a peer has the log. Peers are gone, if it does not lead any more.
func (m *machine) goOn(p *api.Peer, index uint64) {
	last := log.Last(m.Log).Index
	if !within(index, p.Match+1, last) {
		return
	}
	p.Match = index
	p.Next = max(p.Next, index+1)
	m.moveCommit()
	if m.leads() && p.Next <= last {
		m.sendOn(p.Who)
	}
}

// goBack sends a peer entries from further ahead, where its log may still be the same; of a place that is given up already nothing is known.
func (m *machine) goBack(p *api.Peer, at api.At) {
	next := at.Index + 1
	if at.Index >= m.Log.Base.Index {
		next = fork(m.Log, at).Index + 1
	}
	next = max(next, p.Match+1)
	if next < p.Next {
		p.Next = next
		m.sendOn(p.Who)
	}
}

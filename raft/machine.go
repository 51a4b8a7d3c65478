package raft

import (
	"iter"
	"math"
	"slices"

	"tallyhouse/api"
	"tallyhouse/conf"
	"tallyhouse/log"
)

// machine is a server to which something happens, what it sends meanwhile, and whether there is something to install.
type machine struct {
	api.Raft
	sent     []api.Msg
	installs bool
}

// begin makes a machine of a server, if it may be, in memory of its own: extended by nothing, a log is answered as a copy.
func begin(r api.Raft) (*machine, api.Errno) {
	if !mayBe(r) {
		return nil, api.ErrRaft
	}
	r.Log, _, _ = log.Extend(r.Log, nil)
	r.Conf = copied(r.Conf)
	r.Votes = slices.Clone(r.Votes)
	r.Peers = slices.Clone(r.Peers)
	return &machine{Raft: r}, api.OK
}

func copied(c api.Conf) api.Conf {
	return api.Conf{Members: slices.Clone(c.Members)}
}

// force is the members in force.
func (m *machine) force() api.Conf {
	return m.membersAt(math.MaxUint64)
}

// membersAt are the members that the last EntConf at or below index says; those at the base, if there is none.
func (m *machine) membersAt(index uint64) api.Conf {
	_, data, there := log.Conf(m.Log, index)
	if !there {
		return m.Conf
	}
	c, _ := conf.Decode(data)
	return c
}

// changing tells whether an EntConf stands above Commit.
func (m *machine) changing() bool {
	index, _, _ := log.Conf(m.Log, math.MaxUint64)
	return index > m.Commit
}

// others tells each member in force but itself, rising.
func (m *machine) others() iter.Seq[int] {
	return func(yield func(int) bool) {
		for _, member := range m.force().Members {
			if member != m.Me && !yield(member) {
				return
			}
		}
	}
}

func (m *machine) leads() bool {
	return m.Role == api.RoleLeading
}

func (m *machine) holdsBack() bool {
	return m.leads() || m.Leader != 0 && m.Clock < api.MinLimit
}

// peer is the peer of that number, of a leader.
func (m *machine) peer(who int) *api.Peer {
	i := slices.IndexFunc(m.Peers, func(p api.Peer) bool { return p.Who == who })
	return &m.Peers[i]
}

// send sends one message to each of these. What is sent to more than one is to have no lists: they would share them.
func (m *machine) send(msg api.Msg, to ...int) {
	msg.From, msg.Term = m.Me, m.Term
	for _, who := range to {
		msg.To = who
		m.sent = append(m.sent, msg)
	}
}

// sendOn sends a peer what it needs next: entries, or that it is to install what stands ahead of them.
func (m *machine) sendOn(who int) {
	next := m.peer(who).Next
	if next <= m.Log.Base.Index {
		m.send(api.Msg{Kind: api.MsgSnap, Place: m.Log.Base, Conf: copied(m.Conf)}, who)
		return
	}
	place, entries, _ := log.From(m.Log, next, api.MaxSend)
	m.send(api.Msg{Kind: api.MsgAppend, Place: place, Entries: entries, Commit: m.Commit}, who)
}

func (m *machine) sendOnToOthers() {
	for who := range m.others() {
		m.sendOn(who)
	}
}

func (m *machine) follow(leader int) {
	m.Role, m.Leader = api.RoleFollower, leader
	m.Votes, m.Peers = nil, nil
}

func (m *machine) stand() {
	m.Term++
	m.Role, m.Vote, m.Leader = api.RoleStanding, m.Me, 0
	m.Votes = []int{m.Me}
	if conf.Majority(m.force(), m.Votes) {
		m.lead()
		return
	}
	m.send(api.Msg{Kind: api.MsgVote, Place: log.Last(m.Log)}, slices.Collect(m.others())...)
}

// lead asks for the peers ahead of the EntNone, so that it is the first entry that is sent to them.
func (m *machine) lead() {
	m.Role, m.Leader, m.Clock = api.RoleLeading, m.Me, 0
	m.Votes, m.Peers = nil, freshPeers(m.Raft)
	if _, err := m.append(api.EntNone, nil); err != api.OK {
		m.follow(0)
		return
	}
	m.moveCommit()
	if m.leads() {
		m.sendOnToOthers()
	}
}

// append appends an entry of its Term, and answers its place.
func (m *machine) append(kind int, data []byte) (api.At, api.Errno) {
	l, at, err := log.Append(m.Log, api.Entry{Term: m.Term, Kind: kind, Data: data})
	if err == api.OK {
		m.Log = l
	}
	return at, err
}

// moveCommit looks at entries of its own Term alone: an older one that a majority has may still be lost.
func (m *machine) moveCommit() {
	far := []api.Match{{Member: m.Me, Index: log.Last(m.Log).Index}}
	for _, p := range m.Peers {
		far = append(far, api.Match{Member: p.Who, Index: p.Match})
	}
	members := m.force()
	index := conf.Agreed(members, far)
	if term, _ := log.Term(m.Log, index); index > m.Commit && term == m.Term {
		m.Commit = index
	}
	if !conf.Has(members, m.Me) && !m.changing() {
		m.follow(0)
	}
}

func (m *machine) tick(limit int) {
	m.Clock++
	switch {
	case m.leads():
		m.beat()
	case m.Clock >= m.Limit:
		m.Clock, m.Limit = 0, limit
		if m.Term < api.MaxTerm && conf.Has(m.force(), m.Me) {
			m.stand()
		}
	}
}

// beat is a tick of a leader.
func (m *machine) beat() {
	heard := []int{m.Me}
	for i := range m.Peers {
		p := &m.Peers[i]
		p.Quiet = min(p.Quiet+1, api.MaxLimit)
		if p.Quiet < api.MaxLimit {
			heard = append(heard, p.Who)
		}
	}
	switch {
	case !conf.Majority(m.force(), heard):
		m.Clock = 0
		m.follow(0)
	case m.Clock >= api.Beat:
		m.Clock = 0
		m.sendOnToOthers()
	}
}

func (m *machine) propose(kind int, data []byte) (api.At, api.Errno) {
	changes := kind == api.EntConf
	switch {
	case kind != api.EntCommand && !changes, len(data) > api.MaxData, changes && !says(data):
		return api.At{}, api.ErrArg
	case !m.leads():
		return api.At{}, api.ErrLead
	case changes && !m.mayChange(data):
		return api.At{}, api.ErrChange
	}
	at, err := m.append(kind, data)
	if err != api.OK {
		return api.At{}, err
	}
	m.moveCommit()
	if m.leads() {
		m.sendNews()
	}
	return at, api.OK
}

// mayChange tells whether the members in force may now be those that data say: majorities of two changes that are under way need not meet.
func (m *machine) mayChange(data []byte) bool {
	next, _ := conf.Decode(data)
	term, _ := log.Term(m.Log, m.Commit)
	return !m.changing() && term == m.Term && conf.Step(m.force(), next) == api.OK
}

// sendNews sends on to those for whom there is an entry.
func (m *machine) sendNews() {
	last := log.Last(m.Log).Index
	for who := range m.others() {
		if m.peer(who).Next <= last {
			m.sendOn(who)
		}
	}
}

// compact asks for the members while the entries that say them are there.
func (m *machine) compact(index uint64) {
	m.Conf = m.membersAt(index)
	m.Log, _ = log.Compact(m.Log, index)
}

package raft_test

import (
	"slices"

	"tallyhouse/api"
)

// model goes through the chapter's words, without the packages below: its log is Base and one spot for each entry, found by its index. What it came by is noted, so that a test can tell that all of it was gone through.
type model struct {
	api.Raft
	sent  []api.Msg
	there bool
	by    []string
}

func modelOf(r api.Raft) *model {
	return &model{Raft: deep(r)}
}

func (m *model) note(what string) {
	m.by = append(m.by, what)
}

// modelMembers is what data say.
func modelMembers(data []byte) ([]int, bool) {
	if len(data) == 0 || len(data) != 1+int(data[0]) {
		return nil, false
	}
	var out []int
	for _, b := range data[1:] {
		out = append(out, int(b))
	}
	return out, modelGroup(out)
}

func modelGroup(list []int) bool {
	for i, n := range list {
		if n < 1 || n > 5 || i > 0 && n <= list[i-1] {
			return false
		}
	}
	return len(list) > 0
}

// modelEntries tells whether entries may stand behind a Term.
func modelEntries(term uint64, list []api.Entry) bool {
	for _, e := range list {
		if e.Term < max(term, 1) || e.Kind < 1 || e.Kind > 3 || len(e.Data) > 1024 || e.Kind == 1 && len(e.Data) > 0 {
			return false
		}
		term = e.Term
	}
	return true
}

func modelSay(list []api.Entry) bool {
	for _, e := range list {
		if _, ok := modelMembers(e.Data); e.Kind == 3 && !ok {
			return false
		}
	}
	return true
}

// fits tells whether a place, and so many entries behind it, have indexes.
func fits(place api.At, count int) bool {
	end := place.Index + uint64(count)
	return (place.Index == 0) == (place.Term == 0) && end >= place.Index && end != top
}

func modelMayBe(r api.Raft) bool {
	server := func(n int) bool { return n >= 1 && n <= 5 }
	somebody := func(n int) bool { return n == 0 || server(n) }
	switch l := r.Log; {
	case !server(r.Me), !somebody(r.Vote), !somebody(r.Leader), r.Term > 1<<62:
		return false
	case len(l.Entries) > 16, !fits(l.Base, len(l.Entries)), !modelEntries(l.Base.Term, l.Entries), !modelSay(l.Entries):
		return false
	}
	m := model{Raft: r}
	last := m.last()
	if last.Term > r.Term || !modelGroup(r.Conf.Members) || r.Commit < r.Log.Base.Index || r.Commit > last.Index {
		return false
	}
	if r.Limit < 4 || r.Limit > 16 || r.Clock < 0 || r.Clock > r.Limit {
		return false
	}
	switch r.Role {
	case 1:
		return r.Leader != r.Me && len(r.Votes)+len(r.Peers) == 0
	case 2:
		return r.Leader == 0 && r.Vote == r.Me && r.Term > 0 && modelGroup(r.Votes) && slices.Contains(r.Votes, r.Me) && len(r.Peers) == 0
	case 3:
		return r.Leader == r.Me && r.Vote == r.Me && r.Term > 0 && len(r.Votes) == 0 && m.peersMayBe()
	}
	return false
}

func (m *model) peersMayBe() bool {
	var who []int
	for _, p := range m.Peers {
		who = append(who, p.Who)
		if p.Next < 1 || p.Next > m.last().Index+1 || p.Match >= p.Next || p.Quiet < 0 || p.Quiet > 16 {
			return false
		}
	}
	return slices.Equal(who, without([]int{1, 2, 3, 4, 5}, m.Me))
}

func without(list []int, n int) []int {
	return slices.DeleteFunc(slices.Clone(list), func(x int) bool { return x == n })
}

// modelMsg tells whether a message may be, and may come to that server.
func modelMsg(m api.Msg, me int) bool {
	switch {
	case m.Kind < 1, m.Kind > 5, m.From < 1, m.From > 5, m.To != me, m.From == me, m.Term < 1, m.Term > 1<<62:
		return false
	case m.Ok && m.Kind != 2 && m.Kind != 4, m.Place != at(0, 0) && m.Kind == 2, m.Kind != 3 && (m.Commit > 0 || len(m.Entries) > 0):
		return false
	case m.Kind != 5 && (len(m.Conf.Members) > 0 || len(m.Data) > 0), m.Kind == 5 && (m.Place == at(0, 0) || !modelGroup(m.Conf.Members) || len(m.Data) > 65536):
		return false
	case !fits(m.Place, len(m.Entries)), m.Place.Term > m.Term, len(m.Entries) > 8, !modelEntries(m.Place.Term, m.Entries), !modelSay(m.Entries):
		return false
	}
	return len(m.Entries) == 0 || m.Entries[len(m.Entries)-1].Term <= m.Term
}

// spots are the log's places, rising.
func (m *model) spots() []api.At {
	out := []api.At{m.Log.Base}
	for i, e := range m.Log.Entries {
		out = append(out, at(m.Log.Base.Index+uint64(i)+1, e.Term))
	}
	return out
}

func (m *model) last() api.At {
	l := m.spots()
	return l[len(l)-1]
}

func (m *model) has(place api.At) bool {
	return slices.Contains(m.spots(), place)
}

// place is the spot of that index, if there is one.
func (m *model) place(index uint64) api.At {
	for _, x := range m.spots() {
		if x.Index == index {
			return x
		}
	}
	return api.At{}
}

func (m *model) fork(place api.At) api.At {
	out := m.Log.Base
	for _, x := range m.spots() {
		if x.Index <= place.Index && x.Term <= place.Term {
			out = x
		}
	}
	return out
}

// changed is the last EntConf up to an index: where it is, and what it says.
func (m *model) changed(upTo uint64) (uint64, []int) {
	where, members := uint64(0), m.Conf.Members
	for i, e := range m.Log.Entries {
		if index := m.Log.Base.Index + uint64(i) + 1; e.Kind == 3 && index <= upTo {
			where = index
			members, _ = modelMembers(e.Data)
		}
	}
	return where, members
}

func (m *model) force() []int {
	_, members := m.changed(top)
	return members
}

func (m *model) member() bool {
	return slices.Contains(m.force(), m.Me)
}

// most tells whether more than half of the members in force are so.
func (m *model) most(is func(who int) bool) bool {
	balance := 0
	for _, who := range m.force() {
		if is(who) {
			balance++
		} else {
			balance--
		}
	}
	return balance > 0
}

func (m *model) follow(who int) {
	m.Role, m.Leader, m.Votes, m.Peers = 1, who, nil, nil
}

func (m *model) say(msg api.Msg, to int) {
	msg.From, msg.To, msg.Term = m.Me, to, m.Term
	m.sent = append(m.sent, msg)
}

func (m *model) peer(who int) *api.Peer {
	for i := range m.Peers {
		if m.Peers[i].Who == who {
			return &m.Peers[i]
		}
	}
	return nil
}

func (m *model) sendOn(who int) {
	next := m.peer(who).Next
	if next <= m.Log.Base.Index {
		m.note("snap is sent")
		m.say(api.Msg{Kind: 5, Place: m.Log.Base, Conf: deepConf(m.Conf)}, who)
		return
	}
	rest := m.Log.Entries[next-m.Log.Base.Index-1:]
	if len(rest) > 8 {
		m.note("more than 8 to send")
		rest = rest[:8]
	}
	m.say(api.Msg{Kind: 3, Place: m.place(next - 1), Entries: deepEntries(rest), Commit: m.Commit}, who)
}

func (m *model) toOthers(do func(who int)) {
	for _, who := range without(m.force(), m.Me) {
		do(who)
	}
}

func (m *model) stand() {
	m.Term, m.Role, m.Vote, m.Votes, m.Leader = m.Term+1, 2, m.Me, []int{m.Me}, 0
	if m.most(func(who int) bool { return who == m.Me }) {
		m.note("elected by itself")
		m.lead()
		return
	}
	m.note("stands")
	m.toOthers(func(who int) { m.say(api.Msg{Kind: 1, Place: m.last()}, who) })
}

func (m *model) lead() {
	m.Role, m.Leader, m.Clock, m.Votes, m.Peers = 3, m.Me, 0, nil, nil
	for _, who := range without([]int{1, 2, 3, 4, 5}, m.Me) {
		m.Peers = append(m.Peers, api.Peer{Who: who, Next: m.last().Index + 1})
	}
	if !m.append(none(m.Term)) {
		m.note("no room to lead")
		m.follow(0)
		return
	}
	m.note("leads")
	m.commit()
	if m.Role == 3 {
		m.toOthers(m.sendOn)
	}
}

func (m *model) append(e api.Entry) bool {
	if len(m.Log.Entries) == 16 || m.last().Index == top-1 {
		return false
	}
	m.Log.Entries = append(m.Log.Entries, e)
	return true
}

// far is how far a member has the log.
func (m *model) far(who int) uint64 {
	if who == m.Me {
		return m.last().Index
	}
	return m.peer(who).Match
}

// commit tries each index above Commit, and takes the greatest one that a majority has.
func (m *model) commit() {
	best := m.Commit
	for _, x := range m.spots() {
		if x.Index > m.Commit && m.most(func(who int) bool { return m.far(who) >= x.Index }) {
			best = x.Index
		}
	}
	if best > m.Commit && m.place(best).Term != m.Term {
		m.note("not of its Term")
	} else if best > m.Commit {
		m.note("commit moves")
		m.Commit = best
	}
	if where, _ := m.changed(top); !m.member() && where <= m.Commit {
		m.note("no member any more")
		m.follow(0)
	} else if !m.member() {
		m.note("a member till then")
	}
}

func (m *model) tick(limit int) {
	m.Clock++
	if m.Role == 3 {
		m.tickLeading()
		return
	}
	if m.Clock < m.Limit {
		m.note("waits")
		return
	}
	m.Clock, m.Limit = 0, limit
	if m.member() && m.Term < 1<<62 {
		m.stand()
	} else {
		m.note("does not stand")
	}
}

func (m *model) tickLeading() {
	for i := range m.Peers {
		if m.Peers[i].Quiet < 16 {
			m.Peers[i].Quiet++
		}
	}
	switch {
	case !m.most(func(who int) bool { return who == m.Me || m.peer(who).Quiet < 16 }):
		m.note("hears too few")
		m.Clock = 0
		m.follow(0)
	case m.Clock >= 2:
		m.note("beats")
		m.Clock = 0
		m.toOthers(m.sendOn)
	default:
		m.note("does not beat")
	}
}

func (m *model) take(msg api.Msg) {
	if msg.Kind == 1 && (m.Role == 3 || m.Leader != 0 && m.Clock < 4) {
		m.note("holds back")
		return
	}
	if msg.Term > m.Term {
		m.note("a Term above")
		m.Term, m.Vote = msg.Term, 0
		m.follow(0)
	}
	switch msg.Kind {
	case 1:
		m.takeVote(msg)
	case 2:
		m.takeVoted(msg)
	case 4:
		m.takeAppended(msg)
	default:
		m.takeOfLeader(msg)
	}
}

func (m *model) takeVote(msg api.Msg) {
	last := m.last()
	older := msg.Place.Term < last.Term || msg.Place.Term == last.Term && msg.Place.Index < last.Index
	ok := false
	switch {
	case msg.Term < m.Term:
		m.note("no vote: old")
	case m.Vote != 0 && m.Vote != msg.From:
		m.note("no vote: another one's")
	case older:
		m.note("no vote: its log is older")
	default:
		m.note("vote")
		ok, m.Vote, m.Clock = true, msg.From, 0
	}
	m.say(api.Msg{Kind: 2, Ok: ok}, msg.From)
}

func (m *model) takeVoted(msg api.Msg) {
	if m.Role != 2 || msg.Term != m.Term || !msg.Ok {
		m.note("no use for a vote")
		return
	}
	m.note("is voted for")
	m.Votes = slices.Sorted(slices.Values(append(without(m.Votes, msg.From), msg.From)))
	if m.most(func(who int) bool { return slices.Contains(m.Votes, who) }) {
		m.lead()
	}
}

func (m *model) takeOfLeader(msg api.Msg) {
	switch {
	case msg.Term < m.Term:
		m.note("of an old leader")
		m.say(api.Msg{Kind: 4}, msg.From)
	case m.Role == 3:
		m.note("two leaders")
	default:
		m.follow(msg.From)
		m.Clock = 0
		if msg.Kind == 3 {
			m.takeAppend(msg)
		} else {
			m.takeSnap(msg)
		}
	}
}

func (m *model) takeAppend(msg api.Msg) {
	if msg.Place.Index >= m.Log.Base.Index && !m.has(msg.Place) {
		m.note("has not the place")
		place := msg.Place
		if place != at(0, 0) {
			place.Index--
		}
		m.say(api.Msg{Kind: 4, Place: m.fork(place)}, msg.From)
		return
	}
	if !m.putIn(msg) {
		return
	}
	agreed := msg.Place
	for i, e := range msg.Entries {
		if x := at(msg.Place.Index+uint64(i)+1, e.Term); m.has(x) {
			agreed = x
		}
	}
	if agreed.Index <= m.Log.Base.Index {
		m.note("agrees up to the base")
		agreed = m.Log.Base
	}
	if least := min(msg.Commit, agreed.Index); least > m.Commit {
		m.note("commit follows")
		m.Commit = least
	}
	m.say(api.Msg{Kind: 4, Ok: true, Place: agreed}, msg.From)
}

// putIn puts in what the log has not; false, if that would take away what is settled, or a Term would fall.
func (m *model) putIn(msg api.Msg) bool {
	for i, e := range msg.Entries {
		index := msg.Place.Index + uint64(i) + 1
		if index <= m.Log.Base.Index || m.has(at(index, e.Term)) {
			continue
		}
		if index <= m.Commit {
			m.note("parts at or below Commit")
			return false
		}
		if e.Term < m.place(index-1).Term {
			m.note("a Term that falls")
			return false
		}
		if index <= m.last().Index {
			m.note("parts above Commit")
		}
		keep := int(index - m.Log.Base.Index - 1)
		list := slices.Concat(m.Log.Entries[:keep], deepEntries(msg.Entries[i:]))
		if len(list) > 16 {
			m.note("more than there is room for")
			list = list[:16]
		}
		m.Log.Entries = list
		m.note("puts in")
		return true
	}
	m.note("has them all")
	return true
}

func (m *model) takeSnap(msg api.Msg) {
	switch {
	case msg.Place.Index <= m.Commit:
		m.note("nothing to install")
	case m.has(msg.Place):
		m.note("installs at a place that it has")
		m.Log = behind(msg.Place, m.Log.Entries[msg.Place.Index-m.Log.Base.Index:]...)
	default:
		m.note("installs at a new place")
		m.Log = behind(msg.Place)
	}
	if msg.Place.Index > m.Commit {
		m.Conf, m.Commit, m.there = deepConf(msg.Conf), msg.Place.Index, true
	}
	m.say(api.Msg{Kind: 4, Ok: true, Place: m.place(m.Commit)}, msg.From)
}

func (m *model) takeAppended(msg api.Msg) {
	if m.Role != 3 || msg.Term != m.Term {
		m.note("no use for an answer")
		return
	}
	p := m.peer(msg.From)
	p.Quiet = 0
	if !msg.Ok {
		m.takeRefusal(p, msg.Place)
		return
	}
	if msg.Place.Index > m.last().Index || msg.Place.Index <= p.Match {
		m.note("an answer that is old, or too far")
		return
	}
	p.Match = msg.Place.Index
	p.Next = max(p.Next, p.Match+1)
	m.commit()
	if m.Role == 3 && p.Next <= m.last().Index {
		m.note("sends more")
		m.sendOn(p.Who)
	} else {
		m.note("sends no more")
	}
}

func (m *model) takeRefusal(p *api.Peer, place api.At) {
	next := m.fork(place).Index + 1
	if place.Index < m.Log.Base.Index {
		m.note("refused below the base")
		next = place.Index + 1
	}
	if p.Match+1 > next {
		m.note("refused at or below Match")
		next = p.Match + 1
	}
	if next < p.Next {
		m.note("goes back")
		p.Next = next
		m.sendOn(p.Who)
	} else {
		m.note("does not go back")
	}
}

// propose is the error, or the place.
func (m *model) propose(kind int, data []byte) (api.At, api.Errno) {
	next, ok := modelMembers(data)
	where, now := m.changed(top)
	apart := 0
	for n := 1; n <= 5; n++ {
		if slices.Contains(next, n) != slices.Contains(now, n) {
			apart++
		}
	}
	switch {
	case kind != 2 && kind != 3, len(data) > 1024, kind == 3 && !ok:
		return api.At{}, api.ErrArg
	case m.Role != 3:
		return api.At{}, 191
	case kind == 3 && (where > m.Commit || m.place(m.Commit).Term != m.Term || apart > 1):
		return api.At{}, 192
	case !m.append(api.Entry{Term: m.Term, Kind: kind, Data: slices.Clone(data)}):
		return api.At{}, api.ErrFull
	}
	place := m.last()
	m.commit()
	if m.Role == 3 {
		m.toOthers(func(who int) {
			if m.peer(who).Next <= m.last().Index {
				m.sendOn(who)
			}
		})
	}
	return place, api.OK
}

func (m *model) compact(index uint64) api.Errno {
	if index < m.Log.Base.Index || index > m.Commit {
		return api.ErrArg
	}
	_, members := m.changed(index)
	m.Conf = of(slices.Clone(members)...)
	m.Log = behind(m.place(index), m.Log.Entries[index-m.Log.Base.Index:]...)
	return api.OK
}

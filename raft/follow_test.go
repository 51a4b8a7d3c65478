package raft_test

import (
	"slices"
	"testing"

	"tallyhouse/api"
	"tallyhouse/raft"
)

// group is servers, what is on its way between them, and what was so ever since.
type group struct {
	t       *testing.T
	servers []api.Raft
	way     []api.Msg
	apart   int
	led     map[uint64]int
	votes   map[uint64]map[int]int
	settled map[uint64]string
	terms   map[uint64]uint64
	count   map[string]int
}

// newGroup is so many servers, all new, of which the first so many are members.
func newGroup(t *testing.T, count, members int) *group {
	g := &group{t: t, servers: make([]api.Raft, count+1), led: map[uint64]int{}, votes: map[uint64]map[int]int{}, settled: map[uint64]string{}, terms: map[uint64]uint64{0: 0}, count: map[string]int{}}
	for me := 1; me <= count; me++ {
		r, err := raft.Start(me, 0, 0, api.Log{}, of([]int{1, 2, 3, 4, 5}[:members]...), 4)
		if err != api.OK {
			t.Fatal(err)
		}
		g.servers[me] = r
	}
	return g
}

// put puts what came of something in a server's place, and asks what P9.7 says.
func (g *group) put(r api.Raft, sent []api.Msg) {
	g.t.Helper()
	holds(g.t, g.servers[r.Me], r, sent)
	g.servers[r.Me] = r
	g.way = append(g.way, sent...)
	g.askVotes(r)
	g.askSettled(r)
	for _, other := range g.servers[1:] {
		g.askLogs(r, other)
	}
	if r.Role == api.RoleLeading {
		if g.led[r.Term] == 0 {
			g.led[r.Term] = r.Me
		}
		if g.led[r.Term] != r.Me {
			g.t.Fatalf("%d and %d lead in Term %d", r.Me, g.led[r.Term], r.Term)
		}
	}
}

// askVotes: in one Term a server votes for one alone, also if it begins anew between.
func (g *group) askVotes(r api.Raft) {
	if g.votes[r.Term] == nil {
		g.votes[r.Term] = map[int]int{}
	}
	if was := g.votes[r.Term][r.Me]; was != 0 && was != r.Vote {
		g.t.Fatalf("%d votes for %d and %d in Term %d", r.Me, was, r.Vote, r.Term)
	}
	g.votes[r.Term][r.Me] = r.Vote
}

// askSettled: what stands at or below Commit is what ever stood there.
func (g *group) askSettled(r api.Raft) {
	if term, known := g.terms[r.Log.Base.Index]; !known || term != r.Log.Base.Term {
		g.t.Fatalf("%d has given up what was not settled: %s", r.Me, said(r))
	}
	for i, e := range r.Log.Entries {
		index := r.Log.Base.Index + uint64(i) + 1
		if index > r.Commit {
			return
		}
		if _, known := g.settled[index]; !known {
			g.settled[index], g.terms[index] = said(e), e.Term
		}
		if g.settled[index] != said(e) {
			g.t.Fatalf("%d has settled %s at %d, not %s", r.Me, said(e), index, g.settled[index])
		}
	}
}

// askLogs: two logs that have one place have the same entries ahead of it, as far as both keep them.
func (g *group) askLogs(a, b api.Raft) {
	one, two := &model{Raft: a}, &model{Raft: b}
	shared := uint64(0)
	for _, x := range one.spots() {
		if two.has(x) {
			shared = x.Index
		}
	}
	for index := max(a.Log.Base.Index, b.Log.Base.Index) + 1; index <= shared; index++ {
		if said(a.Log.Entries[index-a.Log.Base.Index-1]) != said(b.Log.Entries[index-b.Log.Base.Index-1]) {
			g.t.Fatalf("%d and %d have %d, and unlike entries at %d: %s %s", a.Me, b.Me, shared, index, said(a), said(b))
		}
	}
}

func (g *group) tick(who, limit int) {
	g.t.Helper()
	r, sent, err := raft.Tick(g.servers[who], limit)
	g.right(err)
	g.put(r, sent)
}

func (g *group) right(err api.Errno, others ...api.Errno) bool {
	g.t.Helper()
	if err != api.OK && !slices.Contains(others, err) {
		g.t.Fatalf("error %d", err)
	}
	return err == api.OK
}

// come has a message come, if there is such a server.
func (g *group) come(m api.Msg) {
	g.t.Helper()
	if m.To >= len(g.servers) || m.To == g.apart || m.From == g.apart {
		g.count["went nowhere"]++
		return
	}
	was := g.servers[m.To]
	r, sent, there, err := raft.Take(was, m)
	g.right(err)
	if there {
		g.count["installed"]++
	}
	if (r.Commit > was.Commit && r.Log.Base.Index > was.Log.Base.Index) != there {
		g.t.Fatalf("%s takes %s: installed %v", said(was), said(m), there)
	}
	g.put(r, sent)
}

// take takes a message off the way.
func (g *group) take(i int) api.Msg {
	m := g.way[i]
	g.way = slices.Delete(g.way, i, i+1)
	return m
}

// anew has a server begin anew with what lasts.
func (g *group) anew(who, limit int) {
	was := g.servers[who]
	r, err := raft.Start(who, was.Term, was.Vote, was.Log, was.Conf, limit)
	g.right(err)
	g.servers[who] = r
	g.put(r, nil)
}

func (g *group) propose(who, kind int, data []byte) bool {
	g.t.Helper()
	r, sent, _, err := raft.Propose(g.servers[who], kind, data)
	if !g.right(err, api.ErrLead, api.ErrFull, api.ErrChange) {
		return false
	}
	g.put(r, sent)
	return true
}

// change proposes that one comes or goes.
func (g *group) change(who, member int) {
	force, _ := raft.Force(g.servers[who])
	next := without(force.Members, member)
	if len(next) == len(force.Members) {
		next = slices.Sorted(slices.Values(append(next, member)))
	}
	if len(next) > 0 && g.propose(who, api.EntConf, says(next...)) {
		g.count["changed"]++
	}
}

func (g *group) compact(who int, index uint64) {
	r, err := raft.Compact(g.servers[who], index)
	g.right(err)
	g.put(r, nil)
}

// compactAll has each one give up what it has settled.
func (g *group) compactAll() {
	for _, r := range g.servers[1:] {
		g.compact(r.Me, r.Commit)
	}
}

// leader is who leads in the greatest Term in which somebody does.
func (g *group) leader() int {
	best := 0
	for _, r := range g.servers[1:] {
		if r.Role == api.RoleLeading && (best == 0 || r.Term > g.servers[best].Term) {
			best = r.Me
		}
	}
	return best
}

// happens is one event by chance.
func (g *group) happens(c *chance) {
	g.t.Helper()
	who := 1 + c.pick(len(g.servers)-1)
	if leader := g.leader(); leader != 0 && c.oneIn(2) {
		who = leader
	}
	if len(g.way) > 60 {
		g.take(c.pick(len(g.way)))
	}
	what := c.pick(100)
	switch {
	case what < 24:
		g.tick(1+c.pick(len(g.servers)-1), 4+c.pick(13))
	case what < 28:
		g.propose(who, api.EntCommand, []byte{byte(c.pick(200))})
	case what < 30:
		g.change(who, 1+c.pick(len(g.servers)-1))
	case what < 34:
		r := g.servers[who]
		g.compact(who, r.Log.Base.Index+uint64(c.pick(int(r.Commit-r.Log.Base.Index)+1)))
	case what < 35:
		g.anew(1+c.pick(len(g.servers)-1), 4+c.pick(13))
	case what < 36:
		g.apart = max(0, c.pick(2*len(g.servers))-len(g.servers))
	case len(g.way) == 0:
	case what < 40:
		g.take(c.pick(len(g.way)))
		g.count["lost"]++
	case what < 46:
		g.come(g.way[c.pick(len(g.way))])
		g.count["doubled"]++
	default:
		g.come(g.take(c.pick(min(len(g.way), 1+c.pick(30)))))
	}
}

// P9.7: rows of what happens to three to five servers, by chance.
func TestRowsOfWhatHappens(t *testing.T) {
	total := map[string]int{}
	for run := range 400 {
		c := chance(run * 977)
		count := 3 + run%3
		g := newGroup(t, count, count-run%2)
		for range 900 {
			g.happens(&c)
		}
		total["led"] += len(g.led)
		total["settled"] += len(g.settled)
		for x, n := range g.count {
			total[x] += n
		}
	}
	for x, least := range map[string]int{"led": 1000, "settled": 2500, "installed": 300, "changed": 500, "lost": 2000, "doubled": 2000, "went nowhere": 2000} {
		if total[x] < least {
			t.Errorf("%s: %d times only", x, total[x])
		}
	}
}

// allCome has all come that is on its way, and what that brings.
func (g *group) allCome() {
	g.t.Helper()
	for range 1000 {
		if len(g.way) == 0 {
			return
		}
		g.come(g.take(0))
	}
	g.t.Fatal("there is no end of it")
}

// rounds has all tick, one behind the other, and all messages come: each time, or behind each round.
func (g *group) rounds(count int, each bool, limit func(who int) int) {
	g.t.Helper()
	for range count {
		for who := 1; who < len(g.servers); who++ {
			g.tick(who, limit(who))
			if each {
				g.allCome()
			}
		}
		g.allCome()
	}
}

// agree asks that one leads, that all these follow it, and have all settled what it has.
func (g *group) agree(members ...int) int {
	g.t.Helper()
	leader := g.leader()
	if leader == 0 {
		g.t.Fatal("nobody leads")
	}
	boss := g.servers[leader]
	last := (&model{Raft: boss}).last()
	for _, who := range members {
		r := g.servers[who]
		if r.Term != boss.Term || r.Leader != leader || r.Commit != last.Index || (&model{Raft: r}).last() != last {
			g.t.Fatalf("%d does not agree with %d: %s, %s", who, leader, said(r), said(boss))
		}
	}
	return leader
}

func numbers(count int) []int {
	return []int{1, 2, 3, 4, 5}[:count]
}

// P9.7: new servers that tick one behind the other, whose messages all come, soon have a leader, and agree.
func TestNewServersAgree(t *testing.T) {
	for count := 1; count <= 5; count++ {
		for _, each := range []bool{true, false} {
			g := newGroup(t, count, count)
			own := func(who int) int { return 4 + who }
			g.rounds(16, each, own)
			leader := g.agree(numbers(count)...)
			term := g.servers[leader].Term
			for n := range 40 {
				if !g.propose(leader, api.EntCommand, []byte{byte(n)}) {
					t.Fatalf("%d: there is no room", n)
				}
				g.rounds(1+n%3, each, own)
				if n%5 == 4 {
					g.compactAll()
				}
			}
			g.rounds(2, each, own)
			if g.agree(numbers(count)...) != leader || g.servers[leader].Term != term || len(g.settled) < 41 {
				t.Errorf("%d servers: %d leads in Term %d, %d are settled", count, g.leader(), g.servers[leader].Term, len(g.settled))
			}
		}
	}
}

// P9.7: members that come are sent all, what is given up already, too; members go, the leader among them, and the others have another one soon.
func TestMembersComeAndGo(t *testing.T) {
	g := newGroup(t, 5, 1)
	same := func(who int) int { return 4 }
	g.rounds(6, true, same)
	for n := 2; n <= 5; n++ {
		leader := g.agree(numbers(n - 1)...)
		for range 5 {
			g.propose(leader, api.EntCommand, []byte{byte(n)})
		}
		g.rounds(3, true, same)
		g.compactAll()
		g.change(leader, n)
		g.rounds(6, true, same)
		g.agree(numbers(n)...)
	}
	if g.count["installed"] != 4 {
		t.Errorf("%d have installed", g.count["installed"])
	}
	left := numbers(5)
	for len(left) > 1 {
		leader := g.agree(left...)
		g.change(leader, leader)
		g.rounds(1, true, same)
		if g.servers[leader].Role == api.RoleLeading {
			t.Errorf("%d leads still", leader)
		}
		left = without(left, leader)
		g.rounds(20, true, same)
		g.agree(left...)
		g.compactAll()
	}
}

// P9.7: a leader that was cut off follows the new one, and what it had not settled is gone.
func TestALeaderThatWasCutOff(t *testing.T) {
	g := newGroup(t, 3, 3)
	own := func(who int) int { return 4 + who }
	g.rounds(10, true, own)
	old := g.agree(1, 2, 3)
	g.apart = old
	for range 3 {
		g.propose(old, api.EntCommand, []byte("gone"))
	}
	g.rounds(20, true, own)
	if g.servers[old].Role == api.RoleLeading {
		t.Errorf("%d leads still", old)
	}
	left := without([]int{1, 2, 3}, old)
	leader := g.agree(left...)
	g.propose(leader, api.EntCommand, []byte("stays"))
	g.rounds(2, true, own)
	g.apart = 0
	g.rounds(20, true, own)
	g.agree(1, 2, 3)
	for index, e := range g.settled {
		if e == said(command(1, "gone")) {
			t.Errorf("%d is settled", index)
		}
	}
}

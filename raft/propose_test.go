package raft_test

import (
	"math"
	"testing"

	"tallyhouse/api"
	"tallyhouse/raft"
)

// asked is a proposal to a server, and what comes of it.
type asked struct {
	name  string
	r     api.Raft
	kind  int
	data  []byte
	want  api.Raft
	sent  []api.Msg
	place api.At
	err   api.Errno
}

func propose(t *testing.T, rows []asked) {
	t.Helper()
	for _, q := range rows {
		if err := raft.Check(q.r); err != api.OK {
			t.Fatalf("%s: the server may not be", q.name)
		}
		r, sent, place, err := raft.Propose(q.r, q.kind, q.data)
		if err != q.err || place != q.place {
			t.Errorf("%s: %v %d", q.name, place, err)
		}
		if q.err == api.OK {
			row{name: q.name, want: q.want, sent: q.sent}.ask(t, r, sent, false, err)
		} else if said(r) != said(api.Raft{}) || len(sent) > 0 {
			t.Errorf("%s: beside the error there are %s and %s", q.name, said(r), said(sent))
		}
	}
}

// behindAll is a server with one entry more.
func behindAll(r api.Raft, e api.Entry, do ...func(r *api.Raft)) api.Raft {
	return but(but(r, func(r *api.Raft) { r.Log.Entries = append(r.Log.Entries, e) }), do...)
}

// P9.5: ErrArg goes ahead of ErrLead, that of ErrChange, and that of ErrFull.
func TestProposeOfWhatMayNotBe(t *testing.T) {
	full := but(settled(), func(r *api.Raft) { r.Log.Entries = alike(16, 5) })
	all := roles()
	all["full"] = full
	for name, r := range all {
		var rows []asked
		for _, kind := range []int{math.MinInt, -1, 0, api.EntNone, 4, 258, 1<<32 + 2, math.MaxInt} {
			rows = append(rows, asked{name: name + ", Kind " + said(kind), r: r, kind: kind, err: api.ErrArg}, asked{name: name + ", Kind " + said(kind), r: r, kind: kind, data: says(1, 2), err: api.ErrArg})
		}
		for _, data := range wrongData() {
			rows = append(rows, asked{name: name + ", EntConf of " + said(data), r: r, kind: api.EntConf, data: data, err: api.ErrArg})
		}
		for _, size := range []int{1025, 2048, 70000} {
			rows = append(rows, asked{name: name + ", many bytes", r: r, kind: api.EntCommand, data: make([]byte, size), err: api.ErrArg})
			rows = append(rows, asked{name: name + ", many bytes of members", r: r, kind: api.EntConf, data: make([]byte, size), err: api.ErrArg})
		}
		if r.Role != api.RoleLeading {
			rows = append(rows, asked{name: name, r: r, kind: api.EntCommand, err: 191}, asked{name: name, r: r, kind: api.EntConf, data: says(1, 2, 3), err: 191}, asked{name: name, r: r, kind: api.EntConf, data: says(4, 5), err: 191})
		}
		propose(t, rows)
	}
	propose(t, []asked{
		{name: "full", r: full, kind: api.EntCommand, err: api.ErrFull},
		{name: "full, members", r: full, kind: api.EntConf, data: says(1, 2), err: api.ErrFull},
		{name: "full, no step", r: full, kind: api.EntConf, data: says(4, 5), err: 192},
		{name: "no index more", r: but(settled(), func(r *api.Raft) {
			r.Log.Base, r.Commit = at(top-6, 1), top-1
			r.Peers[0].Match, r.Peers[0].Next = 1, 2
		}), kind: api.EntCommand, err: api.ErrFull},
	})
}

// P9.5: a command is appended, and sent to the members that lack it.
func TestProposeOfACommand(t *testing.T) {
	r := leading()
	x := command(5, "x")
	e := append(deepEntries(r.Log.Entries), x)
	two := backs(offer(2, 5, at(6, 4), 4, e[4:]...))
	three := backs(offer(3, 5, at(5, 2), 4, e[3:]...))
	five := func(r *api.Raft) { r.Conf = of(1, 4, 5) }
	big := command(5, string(make([]byte, 1024)))
	none := command(5, "")
	propose(t, []asked{
		{name: "to three", r: r, kind: api.EntCommand, data: []byte("x"), want: behindAll(r, x), sent: append(two, three...), place: at(8, 5)},
		{name: "to others", r: but(r, five), kind: api.EntCommand, data: []byte("x"), want: behindAll(r, x, five), sent: append(backs(snap(4, 5, at(2, 1), 1, 4, 5)), backs(offer(5, 5, at(7, 5), 4, x))...), place: at(8, 5)},
		{name: "1024 bytes, alone", r: alone(), kind: api.EntCommand, data: big.Data, want: behindAll(alone(), big, commitNow(8)), place: at(8, 5)},
		{name: "no bytes, alone", r: alone(), kind: api.EntCommand, want: behindAll(alone(), none, commitNow(8)), place: at(8, 5)},
		{name: "the last place, alone", r: but(alone(), sixteen(15)), kind: api.EntCommand, data: []byte("x"), want: behindAll(but(alone(), sixteen(15)), x, commitNow(18)), place: at(18, 5)},
	})
	out := but(settled(), func(r *api.Raft) { r.Conf = of(2, 3) })
	propose(t, []asked{{name: "no member, and no change", r: out, kind: api.EntCommand, data: []byte("x"), want: behindAll(out, x, func(r *api.Raft) { r.Role, r.Leader, r.Peers = 1, 0, nil }), place: at(8, 5)}})
}

// sixteen is so many entries of a leader that is alone.
func sixteen(count int) func(r *api.Raft) {
	return func(r *api.Raft) { r.Log.Entries = alike(count, 5); r.Commit = 2 + uint64(count) }
}

// P9.5: members are changed by one, if no change is under way, and what is settled is of its Term; they are in force at once.
func TestProposeOfMembers(t *testing.T) {
	r := settled()
	e := r.Log.Entries
	to := func(members ...int) asked {
		return asked{r: r, kind: api.EntConf, data: says(members...), place: at(8, 5), want: behindAll(r, change(5, members...))}
	}
	two := func(members ...int) api.Msg { return back(offer(2, 5, at(7, 5), 7, change(5, members...))) }
	three := func(members ...int) api.Msg {
		return back(offer(3, 5, at(5, 2), 7, e[3], e[4], change(5, members...)))
	}
	four := back(snap(4, 5, at(2, 1), 1, 2, 3))
	named := func(name string, q asked, sent ...api.Msg) asked {
		q.name, q.sent = name, sent
		return q
	}
	rows := []asked{
		named("the same ones", to(1, 2, 3), two(1, 2, 3), three(1, 2, 3)),
		named("one more", to(1, 2, 3, 4), two(1, 2, 3, 4), three(1, 2, 3, 4), four),
		named("one more, with little to send", to(1, 2, 3, 5), two(1, 2, 3, 5), three(1, 2, 3, 5), back(offer(5, 5, at(7, 5), 7, change(5, 1, 2, 3, 5)))),
		named("one less", to(1, 2), two(1, 2)),
		named("without itself", to(2, 3), two(2, 3), three(2, 3)),
	}
	for _, members := range [][]int{{1}, {2}, {3}, {1, 4}, {4, 5}, {1, 2, 4}, {1, 2, 5}, {2, 3, 4}, {1, 2, 3, 4, 5}, {5}} {
		rows = append(rows, asked{name: "two apart " + said(members), r: r, kind: api.EntConf, data: says(members...), err: 192})
	}
	rows = append(rows,
		asked{name: "alone, without itself", r: alone(), kind: api.EntConf, data: says(2), err: 192},
		asked{name: "alone, one more", r: alone(), kind: api.EntConf, data: says(1, 5), place: at(8, 5), want: behindAll(alone(), change(5, 1, 5)), sent: backs(offer(5, 5, at(7, 5), 7, change(5, 1, 5)))},
		asked{name: "alone, the same", r: alone(), kind: api.EntConf, data: says(1), place: at(8, 5), want: behindAll(alone(), change(5, 1), commitNow(8))},
	)
	propose(t, rows)
}

// P9.5: ErrChange while one is under way, or ahead of the first entry of its Term.
func TestProposeOfMembersTooEarly(t *testing.T) {
	r := settled()
	old := but(r, commitNow(6))
	base := but(r, func(r *api.Raft) { r.Log = behind(at(7, 4), none(5)) })
	first := but(base, commitNow(8))
	own := but(r, func(r *api.Raft) { r.Log = behind(at(7, 5)) })
	under := behindAll(r, change(5, 1, 2))
	past := but(under, commitNow(8))
	taken := but(r, func(r *api.Raft) { r.Log.Entries[4] = change(5, 1, 2, 3) })
	var rows []asked
	for _, members := range [][]int{{1, 2, 3}, {1, 2}, {1, 2, 3, 4}, {1}} {
		for name, r := range map[string]api.Raft{"what is settled is of another Term": old, "what is settled is a base of another Term": base, "a change is under way": under, "a change is not settled yet": but(taken, commitNow(6))} {
			rows = append(rows, asked{name: name, r: r, kind: api.EntConf, data: says(members...), err: 192})
		}
	}
	x := command(5, "x")
	rows = append(rows,
		asked{name: "a command while a change is under way", r: under, kind: api.EntCommand, data: x.Data, want: behindAll(under, x), sent: backs(offer(2, 5, at(7, 5), 7, change(5, 1, 2), x)), place: at(9, 5)},
		asked{name: "the change is settled", r: past, kind: api.EntConf, data: says(1, 2, 5), want: behindAll(past, change(5, 1, 2, 5)), sent: backs(offer(2, 5, at(7, 5), 8, change(5, 1, 2), change(5, 1, 2, 5)), offer(5, 5, at(7, 5), 8, change(5, 1, 2), change(5, 1, 2, 5))), place: at(9, 5)},
		asked{name: "two apart from those in force", r: past, kind: api.EntConf, data: says(1, 2, 3, 4), err: 192},
		asked{name: "the entry of its Term is settled", r: first, kind: api.EntConf, data: says(1, 2), want: behindAll(first, change(5, 1, 2)), sent: backs(offer(2, 5, at(7, 4), 8, none(5), change(5, 1, 2))), place: at(9, 5)},
		asked{name: "the entry of its Term is the base", r: own, kind: api.EntConf, data: says(1, 2), want: behindAll(own, change(5, 1, 2)), sent: backs(offer(2, 5, at(7, 5), 7, change(5, 1, 2))), place: at(8, 5)},
	)
	for i := range rows {
		if r := &rows[i].r; r.Log.Base.Index == 7 {
			r.Peers[0] = api.Peer{Who: 2, Next: 8, Match: 7}
			rows[i].want.Peers = r.Peers
		}
	}
	propose(t, rows)
}

// P9.5: whether it is a step is asked of the members in force, of all that there are.
func TestProposeOfEachStep(t *testing.T) {
	all := []int{}
	for bits := 1; bits < 32; bits++ {
		all = append(all, bits)
	}
	members := func(bits int) []int {
		var out []int
		for n := 1; n <= 5; n++ {
			if bits>>(n-1)&1 == 1 {
				out = append(out, n)
			}
		}
		return out
	}
	for _, from := range all {
		r := but(settled(), func(r *api.Raft) { r.Log.Entries[4] = change(5, members(from)...) })
		for _, into := range all {
			apart := from ^ into
			_, _, _, err := raft.Propose(r, api.EntConf, says(members(into)...))
			if step := apart&(apart-1) == 0; step != (err == api.OK) || !step && err != 192 {
				t.Errorf("from %v to %v: %d", members(from), members(into), err)
			}
		}
	}
}

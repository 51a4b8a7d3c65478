package raft_test

import (
	"testing"

	"tallyhouse/api"
)

// follows is a server that has just heard 2.
func follows(r *api.Raft) {
	r.Role, r.Leader, r.Clock, r.Votes = 1, 2, 0, nil
}

// entriesNow are the entries that a log has then.
func entriesNow(list ...api.Entry) func(r *api.Raft) {
	return func(r *api.Raft) { r.Log.Entries = list }
}

func commitNow(index uint64) func(r *api.Raft) {
	return func(r *api.Raft) { r.Commit = index }
}

// has is what is sent back, Ok; hasNot, not Ok.
func has(place api.At) []api.Msg    { return backs(appended(2, 5, true, place)) }
func hasNot(place api.At) []api.Msg { return backs(appended(2, 5, false, place)) }

// P9.4: each Role at the Terms below, at and above its own.
func TestAppendAndSnapByTerms(t *testing.T) {
	for name, r := range roles() {
		beat := func(term uint64) api.Msg { return offer(2, term, at(6, 4), 4) }
		install := func(term uint64) api.Msg { return snap(2, term, at(4, 2), 4) }
		var rows []row
		for _, term := range []uint64{4, 1} {
			old := backs(appended(2, 5, false, at(0, 0)))
			rows = append(rows, row{name: name + ", MsgSnap of a Term below", r: r, msg: snap(2, term, at(9, term), 4), want: r, sent: old})
			rows = append(rows, row{name: name + ", MsgAppend of a Term below", r: r, msg: offer(2, term, at(2, 1), 9), want: r, sent: old})
		}
		end := at(6, 4)
		switch name {
		case "leading":
			rows = append(rows,
				row{name: name + ", MsgAppend", r: r, msg: beat(5), want: r},
				row{name: name + ", MsgAppend of entries", r: r, msg: offer(2, 5, at(6, 4), 7, commands(5, 5)...), want: r},
				row{name: name + ", MsgAppend at no place", r: r, msg: offer(2, 5, at(60, 4), 7), want: r},
				row{name: name + ", MsgSnap", r: r, msg: install(5), want: r},
				row{name: name + ", MsgSnap above Commit", r: r, msg: snap(2, 5, at(9, 5), 4), want: r})
		default:
			rows = append(rows,
				row{name: name + ", MsgAppend", r: r, msg: beat(5), want: but(r, follows), sent: has(end)},
				row{name: name + ", MsgSnap", r: r, msg: install(5), want: but(r, follows), sent: has(at(4, 2))})
		}
		for _, term := range []uint64{6, api.MaxTerm} {
			rows = append(rows,
				row{name: name + ", MsgAppend of a Term above", r: r, msg: beat(term), want: but(above(r, term), follows), sent: backs(appended(2, term, true, end))},
				row{name: name + ", MsgSnap of a Term above", r: r, msg: install(term), want: but(above(r, term), follows), sent: backs(appended(2, term, true, at(4, 2)))},
				row{name: name + ", MsgAppend of a Term above at no place", r: r, msg: offer(2, term, at(60, 4), 9), want: but(above(r, term), follows), sent: backs(appended(2, term, false, end))})
		}
		take(t, rows)
	}
}

// P9.4: at a place that the Log has not the fork is sent back.
func TestAppendAtAPlaceThatItHasNot(t *testing.T) {
	r := led()
	zero := but(r, func(r *api.Raft) { r.Log.Base, r.Commit = at(0, 0), 2 })
	bare := but(r, entriesNow(), commitNow(2))
	var rows []row
	for _, q := range []struct {
		r           api.Raft
		place, fork api.At
	}{
		{r, at(7, 4), at(6, 4)}, {r, at(7, 5), at(6, 4)}, {r, at(9, 4), at(6, 4)}, {r, at(top-4, 5), at(6, 4)},
		{r, at(7, 3), at(5, 2)}, {r, at(7, 2), at(5, 2)}, {r, at(7, 1), at(3, 1)}, {r, at(99, 1), at(3, 1)},
		{r, at(6, 5), at(5, 2)}, {r, at(6, 3), at(5, 2)}, {r, at(6, 2), at(5, 2)}, {r, at(6, 1), at(3, 1)},
		{r, at(5, 4), at(4, 2)}, {r, at(5, 3), at(4, 2)}, {r, at(5, 1), at(3, 1)}, {r, at(4, 4), at(3, 1)}, {r, at(4, 1), at(3, 1)},
		{r, at(3, 2), at(2, 1)}, {r, at(3, 5), at(2, 1)}, {r, at(2, 2), at(2, 1)}, {r, at(2, 5), at(2, 1)},
		{zero, at(1, 2), at(0, 0)}, {zero, at(2, 1), at(1, 1)}, {zero, at(2, 4), at(1, 1)}, {zero, at(5, 5), at(4, 4)}, {zero, at(9, 1), at(1, 1)},
		{bare, at(3, 1), at(2, 1)}, {bare, at(9, 5), at(2, 1)}, {bare, at(2, 3), at(2, 1)},
	} {
		for _, entries := range [][]api.Entry{nil, {none(5)}, commands(5, 5, 5)} {
			rows = append(rows, row{name: "at " + said(q.place), r: q.r, msg: offer(2, 5, q.place, 9, entries...), want: but(q.r, follows), sent: hasNot(q.fork)})
		}
	}
	late := but(r, func(r *api.Raft) { r.Log = behind(at(4, 3), commands(3, 4)...) })
	for _, place := range []api.At{at(7, 2), at(6, 1), at(5, 2), at(4, 2)} {
		rows = append(rows, row{name: "all Terms are greater, at " + said(place), r: late, msg: offer(2, 5, place, 9), want: but(late, follows), sent: hasNot(at(4, 3))})
	}
	take(t, rows)
}

// P9.4: Entries that the Log has, and such as part from it above Commit.
func TestAppendAtAPlaceThatItHas(t *testing.T) {
	r := led()
	e := r.Log.Entries
	two := commands(5, 5)
	zero := but(r, func(r *api.Raft) { r.Log.Base, r.Commit = at(0, 0), 0 })
	empty := but(r, func(r *api.Raft) { r.Log, r.Commit = api.Log{}, 0 })
	var rows []row
	is := func(name string, r api.Raft, msg api.Msg, place api.At, do ...func(r *api.Raft)) {
		rows = append(rows, row{name: name, r: r, msg: msg, want: but(but(r, follows), do...), sent: has(place)})
	}
	is("nothing at the end", r, offer(2, 5, at(6, 4), 0), at(6, 4))
	is("nothing amid", r, offer(2, 5, at(4, 2), 0), at(4, 2))
	is("nothing at the base", r, offer(2, 5, at(2, 1), 0), at(2, 1))
	is("all of it", r, offer(2, 5, at(2, 1), 0, e...), at(6, 4))
	is("some of it", r, offer(2, 5, at(2, 1), 0, e[:2]...), at(4, 2))
	is("the last one", r, offer(2, 5, at(5, 2), 0, e[3]), at(6, 4))
	is("more at the end", r, offer(2, 5, at(6, 4), 0, two...), at(8, 5), entriesNow(e[0], e[1], e[2], e[3], two[0], two[1]))
	is("all of it, and more", r, offer(2, 5, at(3, 1), 0, e[1], e[2], e[3], two[0]), at(7, 5), entriesNow(e[0], e[1], e[2], e[3], two[0]))
	is("parts at the end", r, offer(2, 5, at(5, 2), 0, two[0]), at(6, 5), entriesNow(e[0], e[1], e[2], two[0]))
	is("parts at the end by a lesser Term", r, offer(2, 5, at(5, 2), 0, commands(3)...), at(6, 3), entriesNow(e[0], e[1], e[2], command(3, "of 3")))
	is("parts just above Commit", r, offer(2, 5, at(3, 1), 0, e[1], two[0]), at(5, 5), entriesNow(e[0], e[1], two[0]))
	is("parts just above Commit, behind what is settled", r, offer(2, 5, at(4, 2), 0, two...), at(6, 5), entriesNow(e[0], e[1], two[0], two[1]))
	is("at a new one", empty, offer(2, 5, at(0, 0), 0, commands(1, 2)...), at(2, 2), entriesNow(commands(1, 2)...))
	is("nothing at a new one", empty, offer(2, 5, at(0, 0), 9), at(0, 0))
	is("all parts", zero, offer(2, 5, at(0, 0), 0, commands(5)...), at(1, 5), entriesNow(commands(5)...))
	take(t, rows)
}

// P9.4: below Base.Index the Entries up to it are passed over, whatever they are.
func TestAppendBelowTheBase(t *testing.T) {
	r := led()
	e := r.Log.Entries
	high := but(r, func(r *api.Raft) { r.Log = behind(at(5, 3), commands(3, 4)...); r.Commit = 5 })
	var rows []row
	is := func(name string, r api.Raft, msg api.Msg, place api.At, do ...func(r *api.Raft)) {
		rows = append(rows, row{name: name, r: r, msg: msg, want: but(but(r, follows), do...), sent: has(place)})
	}
	is("nothing", r, offer(2, 5, at(1, 1), 4), at(2, 1))
	is("nothing at no place", r, offer(2, 5, at(0, 0), 4), at(2, 1))
	is("nothing at another Term", r, offer(2, 5, at(1, 5), 4), at(2, 1))
	is("up to the base", r, offer(2, 5, at(1, 1), 4, commands(1)...), at(2, 1))
	is("up to the base, another Term", r, offer(2, 5, at(1, 1), 4, commands(4)...), at(2, 1))
	is("not up to the base", high, offer(2, 5, at(1, 1), 4, commands(1, 1)...), at(5, 3))
	is("all that it has", r, offer(2, 5, at(0, 0), 4, commands(1, 1, 1, 2, 2, 4)...), at(6, 4))
	is("some that it has", r, offer(2, 5, at(1, 1), 4, commands(1, 1, 2)...), at(4, 2))
	is("some that it has, behind another Term", r, offer(2, 5, at(0, 0), 4, commands(1, 1, 1)...), at(3, 1))
	is("and more", r, offer(2, 5, at(1, 1), 4, commands(1, 1, 2, 2, 4, 5)...), at(7, 5), entriesNow(e[0], e[1], e[2], e[3], command(5, "of 5")))
	is("and parts", r, offer(2, 5, at(1, 1), 4, commands(1, 1, 2, 5)...), at(5, 5), entriesNow(e[0], e[1], command(5, "of 5")))
	is("parts just above the base", high, offer(2, 5, at(3, 1), 4, commands(2, 3, 4)...), at(6, 4), entriesNow(commands(4)...))
	is("parts just above the base, the base's Term another one", high, offer(2, 5, at(4, 1), 4, commands(1, 5, 5)...), at(7, 5), entriesNow(commands(5, 5)...))
	is("just above the base, its Term", high, offer(2, 5, at(4, 1), 4, commands(1, 3, 3)...), at(7, 3), entriesNow(commands(3, 3)...))
	take(t, rows)
	fall := offer(2, 5, at(4, 1), 9, commands(1, 2, 5)...)
	take(t, []row{
		{name: "a Term below the base's", r: high, msg: fall, want: but(high, follows)},
		{name: "a Term below the base's, and then what it has", r: high, msg: offer(2, 5, at(4, 1), 9, commands(1, 2, 4)...), want: but(high, follows)},
		{name: "a Term below the base's, behind no place", r: high, msg: offer(2, 5, at(0, 0), 9, commands(1, 1, 1, 1, 1, 1)...), want: but(high, follows)},
	})
}

// P9.4: what would take away an entry at or below Commit changes nothing of the Log, and nothing is sent.
func TestAppendThatPartsAtOrBelowCommit(t *testing.T) {
	r := led()
	var rows []row
	for _, msg := range []api.Msg{
		offer(2, 5, at(3, 1), 9, commands(5)...), offer(2, 5, at(3, 1), 9, commands(1)...), offer(2, 5, at(2, 1), 9, commands(1, 3)...),
		offer(2, 5, at(2, 1), 9, commands(2)...), offer(2, 5, at(2, 1), 9, commands(3, 3, 4, 4)...), offer(2, 5, at(0, 0), 9, commands(1, 1, 5, 5, 5)...),
		offer(2, 5, at(1, 1), 9, commands(1, 1, 3, 3, 4)...),
	} {
		for _, r := range []api.Raft{r, waiting(), standing()} {
			rows = append(rows, row{name: said(msg.Entries), r: r, msg: msg, want: but(r, follows)})
		}
		rows = append(rows, row{name: "a Term above", r: leading(), msg: but5to6(msg), want: but(above(leading(), 6), follows)})
	}
	all := but(r, commitNow(6))
	rows = append(rows,
		row{name: "the last one, settled", r: all, msg: offer(2, 5, at(5, 2), 9, commands(5)...), want: but(all, follows)},
		row{name: "behind the last one", r: all, msg: offer(2, 5, at(6, 4), 6, commands(5)...), want: but(all, follows, entriesNow(append(all.Log.Entries, command(5, "of 5"))...)), sent: has(at(7, 5))})
	take(t, rows)
}

func but5to6(m api.Msg) api.Msg {
	m.Term = 6
	return m
}

// P9.4: as many as there is room for.
func TestAppendOfMoreThanThereIsRoomFor(t *testing.T) {
	long := func(n int) api.Raft {
		return but(led(), func(r *api.Raft) { r.Log = behind(at(2, 1), alike(n, 2)...); r.Commit = 4 })
	}
	now := func(ahead, more int) func(r *api.Raft) {
		return func(r *api.Raft) {
			r.Log = behind(at(2, 1), append(alike(ahead, 2), alike(more, 5)...)...)
			r.Commit = 2 + uint64(ahead+more)
		}
	}
	var rows []row
	for ahead := 8; ahead <= 16; ahead++ {
		for more := range 9 {
			fit := min(more, 16-ahead)
			place := at(uint64(2+ahead+fit), 5)
			if fit == 0 {
				place.Term = 2
			}
			msg := offer(2, 5, at(uint64(2+ahead), 2), top, alike(more, 5)...)
			rows = append(rows, row{name: said(ahead) + " and " + said(more), r: long(ahead), msg: msg, want: but(long(ahead), follows, now(ahead, fit)), sent: has(place)})
		}
	}
	some := append(alike(2, 2), alike(6, 5)...)
	rows = append(rows,
		row{name: "full, and two that it has", r: long(16), msg: offer(2, 5, at(16, 2), 9, some...), want: but(long(16), follows, commitNow(9)), sent: has(at(18, 2))},
		row{name: "full, and parts", r: long(16), msg: offer(2, 5, at(14, 2), 9, some...), want: but(long(16), follows, now(14, 2), commitNow(9)), sent: has(at(18, 5))},
		row{name: "15, and two that it has", r: long(15), msg: offer(2, 5, at(15, 2), 9, some...), want: but(long(15), follows, now(15, 1), commitNow(9)), sent: has(at(18, 5))},
	)
	take(t, rows)
}

// P9.4: Commit is the greater one of itself and the lesser one of the message's and how far it agrees.
func TestAppendMovesCommit(t *testing.T) {
	r := led()
	two := commands(5, 5)
	more := entriesNow(append(r.Log.Entries, two...)...)
	var rows []row
	for _, q := range []struct{ said, want uint64 }{{0, 4}, {3, 4}, {4, 4}, {5, 5}, {6, 6}, {7, 7}, {8, 8}, {9, 8}, {top, 8}} {
		rows = append(rows, row{name: "more, " + said(q.said), r: r, msg: offer(2, 5, at(6, 4), q.said, two...), want: but(r, follows, more, commitNow(q.want)), sent: has(at(8, 5))})
	}
	for _, q := range []struct{ said, want uint64 }{{0, 4}, {4, 4}, {5, 5}, {6, 5}, {top, 5}} {
		rows = append(rows, row{name: "not all of it, " + said(q.said), r: r, msg: offer(2, 5, at(4, 2), q.said, r.Log.Entries[2]), want: but(r, follows, commitNow(q.want)), sent: has(at(5, 2))})
		rows = append(rows, row{name: "no entries, " + said(q.said), r: r, msg: offer(2, 5, at(5, 2), q.said), want: but(r, follows, commitNow(q.want)), sent: has(at(5, 2))})
	}
	for _, commit := range []uint64{0, 3, 4, 6, top} {
		rows = append(rows, row{name: "below Commit, " + said(commit), r: r, msg: offer(2, 5, at(3, 1), commit), want: but(r, follows), sent: has(at(3, 1))})
		rows = append(rows, row{name: "below the base, " + said(commit), r: r, msg: offer(2, 5, at(1, 1), commit), want: but(r, follows), sent: has(at(2, 1))})
		rows = append(rows, row{name: "at no place, " + said(commit), r: r, msg: offer(2, 5, at(7, 5), commit), want: but(r, follows), sent: hasNot(at(6, 4))})
	}
	take(t, rows)
}

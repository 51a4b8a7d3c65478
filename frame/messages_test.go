package frame_test

import (
	"bytes"

	"tallyhouse/api"
)

func at(index, term uint64) api.At {
	return api.At{Index: index, Term: term}
}

func conf(members ...int) api.Conf {
	return api.Conf{Members: members}
}

// none is an entry of the Kind EntNone.
func none(term uint64) api.Entry {
	return api.Entry{Term: term, Kind: api.EntNone}
}

// nones are such entries, one of each Term.
func nones(terms ...uint64) []api.Entry {
	var out []api.Entry
	for _, x := range terms {
		out = append(out, none(x))
	}
	return out
}

func command(term uint64, data string) api.Entry {
	return api.Entry{Term: term, Kind: api.EntCommand, Data: []byte(data)}
}

func change(term uint64, data string) api.Entry {
	return api.Entry{Term: term, Kind: api.EntConf, Data: []byte(data)}
}

func bytesOf(size int) []byte {
	return bytes.Repeat([]byte{0xA5, 0, 0x80}, size/3+1)[:size]
}

// named is a message, and what there is about it.
type named struct {
	name string
	msg  api.Msg
}

// ordinary are messages of each Kind, none at an edge.
func ordinary() []named {
	return []named{
		{"MsgVote", api.Msg{Kind: api.MsgVote, From: 2, To: 4, Term: 7, Place: at(9, 6)}},
		{"MsgVote, no place", api.Msg{Kind: api.MsgVote, From: 1, To: 5, Term: 1}},
		{"MsgVoted, Ok", api.Msg{Kind: api.MsgVoted, From: 1, To: 2, Term: 3, Ok: true}},
		{"MsgVoted, not", api.Msg{Kind: api.MsgVoted, From: 5, To: 1, Term: 300}},
		{"MsgAppend, no place", api.Msg{Kind: api.MsgAppend, From: 1, To: 2, Term: 300, Commit: 5, Entries: nones(300)}},
		{"MsgAppend", api.Msg{Kind: api.MsgAppend, From: 3, To: 2, Term: 1000, Place: at(200, 6), Commit: 150, Entries: []api.Entry{none(6), command(6, "abc"), change(7, "\x02\x01\x02"), command(900, "")}}},
		{"MsgAppend, a beat", api.Msg{Kind: api.MsgAppend, From: 3, To: 2, Term: 4, Place: at(12, 4), Commit: 12}},
		{"MsgAppended, Ok", api.Msg{Kind: api.MsgAppended, From: 4, To: 3, Term: 4, Ok: true, Place: at(16, 4)}},
		{"MsgAppended, not", api.Msg{Kind: api.MsgAppended, From: 4, To: 3, Term: 4, Place: at(3, 2)}},
		{"MsgAppended, no place", api.Msg{Kind: api.MsgAppended, From: 3, To: 4, Term: 4}},
		{"MsgSnap", api.Msg{Kind: api.MsgSnap, From: 2, To: 1, Term: 8, Place: at(130, 8), Conf: conf(1, 2, 3), Data: []byte("snap")}},
	}
}

// edges are messages that just may be.
func edges() []named {
	of := func(name string, m api.Msg) named { return named{name, m} }
	eight := nones(1, 1, 2, 2, 2, 3, 4, api.MaxTerm)
	return []named{
		of("MsgVote, all that goes", api.Msg{Kind: api.MsgVote, From: 5, To: 4, Term: api.MaxTerm, Place: at(top-1, api.MaxTerm)}),
		of("MsgVote, least", api.Msg{Kind: api.MsgVote, From: 1, To: 2, Term: 1, Place: at(1, 1)}),
		of("MsgVoted, MaxTerm", api.Msg{Kind: api.MsgVoted, From: 5, To: 1, Term: api.MaxTerm, Ok: true}),
		of("MsgAppend, nothing", api.Msg{Kind: api.MsgAppend, From: 1, To: 5, Term: 1}),
		of("MsgAppend, empty lists", api.Msg{Kind: api.MsgAppend, From: 1, To: 5, Term: 1, Entries: []api.Entry{}, Conf: conf([]int{}...), Data: []byte{}}),
		of("MsgAppend, empty Data of an EntNone", api.Msg{Kind: api.MsgAppend, From: 1, To: 5, Term: 1, Entries: []api.Entry{{Term: 1, Kind: api.EntNone, Data: []byte{}}}}),
		of("MsgAppend, 8 Entries", api.Msg{Kind: api.MsgAppend, From: 1, To: 5, Term: api.MaxTerm, Commit: top, Entries: eight}),
		of("MsgAppend, 8 Entries at the end", api.Msg{Kind: api.MsgAppend, From: 1, To: 5, Term: api.MaxTerm, Place: at(top-9, 1), Commit: top, Entries: eight}),
		of("MsgAppend, no Entries at the end", api.Msg{Kind: api.MsgAppend, From: 1, To: 5, Term: 9, Place: at(top-1, 9), Commit: 1}),
		of("MsgAppend, Terms of the place", api.Msg{Kind: api.MsgAppend, From: 1, To: 5, Term: 9, Place: at(1, 9), Entries: nones(9, 9)}),
		of("MsgAppend, 1024 bytes", api.Msg{Kind: api.MsgAppend, From: 1, To: 5, Term: 9, Entries: []api.Entry{{Term: 1, Kind: api.EntCommand, Data: bytesOf(1024)}, {Term: 9, Kind: api.EntConf, Data: bytesOf(1024)}}}),
		of("MsgAppended, all that goes", api.Msg{Kind: api.MsgAppended, From: 4, To: 5, Term: api.MaxTerm, Ok: true, Place: at(top-1, api.MaxTerm)}),
		of("MsgSnap, nothing", api.Msg{Kind: api.MsgSnap, From: 4, To: 5, Term: 1, Place: at(1, 1)}),
		of("MsgSnap, 5 members", api.Msg{Kind: api.MsgSnap, From: 4, To: 5, Term: 1, Place: at(1, 1), Conf: conf(255, 1, 255, 128, 1)}),
		of("MsgSnap, members that are no group", api.Msg{Kind: api.MsgSnap, From: 4, To: 5, Term: 1, Place: at(1, 1), Conf: conf(3, 3, 2)}),
		of("MsgSnap, 65536 bytes", api.Msg{Kind: api.MsgSnap, From: 4, To: 5, Term: api.MaxTerm, Place: at(top-1, api.MaxTerm), Conf: conf(5, 4, 3, 2, 1), Data: bytesOf(65536)}),
		of("MsgSnap, 127 bytes", api.Msg{Kind: api.MsgSnap, From: 4, To: 5, Term: 1, Place: at(1, 1), Data: bytesOf(127)}),
		of("MsgSnap, 128 bytes", api.Msg{Kind: api.MsgSnap, From: 4, To: 5, Term: 1, Place: at(1, 1), Data: bytesOf(128)}),
	}
}

func right() []named {
	return append(ordinary(), edges()...)
}

// wrong are messages that may not be, each for one reason alone.
func wrong() []named {
	vote := api.Msg{Kind: api.MsgVote, From: 2, To: 4, Term: 7, Place: at(9, 6)}
	send := api.Msg{Kind: api.MsgAppend, From: 2, To: 4, Term: 7, Place: at(9, 6), Commit: 3, Entries: []api.Entry{command(6, "a"), command(7, "b")}}
	snap := api.Msg{Kind: api.MsgSnap, From: 2, To: 4, Term: 7, Place: at(9, 6), Conf: conf(2, 4), Data: []byte("s")}
	but := func(m api.Msg, name string, do func(m *api.Msg)) named {
		m = deep(m)
		do(&m)
		return named{name, m}
	}
	list := []named{
		but(vote, "Kind 0", func(m *api.Msg) { m.Kind, m.Place = 0, api.At{} }),
		but(vote, "Kind 6", func(m *api.Msg) { m.Kind, m.Place = 6, api.At{} }),
		but(vote, "Kind -1", func(m *api.Msg) { m.Kind, m.Place = -1, api.At{} }),
		but(vote, "Kind 257", func(m *api.Msg) { m.Kind = 257 }),
		but(vote, "From 0", func(m *api.Msg) { m.From = 0 }),
		but(vote, "From -1", func(m *api.Msg) { m.From = -1 }),
		but(vote, "From 6", func(m *api.Msg) { m.From = 6 }),
		but(vote, "To 0", func(m *api.Msg) { m.To = 0 }),
		but(vote, "To -4", func(m *api.Msg) { m.To = -4 }),
		but(vote, "To 6", func(m *api.Msg) { m.To = 6 }),
		but(vote, "From the same as To", func(m *api.Msg) { m.From = 4 }),
		but(vote, "Term 0", func(m *api.Msg) { m.Term, m.Place = 0, api.At{} }),
		but(vote, "MaxTerm + 1", func(m *api.Msg) { m.Term = api.MaxTerm + 1 }),
		but(vote, "Term 2^64 - 1", func(m *api.Msg) { m.Term = top }),
		but(vote, "a place without an Index", func(m *api.Msg) { m.Place.Index = 0 }),
		but(vote, "a place without a Term", func(m *api.Msg) { m.Place.Term = 0 }),
		but(vote, "a place above the Term", func(m *api.Msg) { m.Place.Term = 8 }),
		but(vote, "a vote's place at 2^64 - 1", func(m *api.Msg) { m.Place.Index = top }),
		but(send, "an append's place without an Index", func(m *api.Msg) { m.Place.Index = 0 }),
		but(send, "an append's place without a Term", func(m *api.Msg) { m.Place.Term = 0 }),
		but(send, "an append's place above the Term", func(m *api.Msg) { m.Place.Term, m.Entries = 8, nil }),
		but(send, "an append's place at 2^64 - 1", func(m *api.Msg) { m.Place.Index, m.Entries = top, nil }),
		but(send, "an end at 2^64 - 1", func(m *api.Msg) { m.Place.Index = top - 2 }),
		but(send, "an end at 2^64", func(m *api.Msg) { m.Place.Index = top - 1 }),
		but(send, "an end at 2^64 + 1", func(m *api.Msg) { m.Place.Index = top }),
		but(send, "9 Entries", func(m *api.Msg) { m.Entries = nones(6, 6, 6, 6, 6, 6, 6, 6, 6) }),
		but(send, "17 Entries", func(m *api.Msg) {
			m.Entries = nones(6, 6, 6, 6, 6, 6, 6, 6, 6, 6, 6, 6, 6, 6, 6, 6, 6)
		}),
		but(send, "Terms that fall", func(m *api.Msg) { m.Entries[0].Term, m.Entries[1].Term = 7, 6 }),
		but(send, "Terms that fall behind the place", func(m *api.Msg) { m.Entries[0].Term = 5 }),
		but(send, "Terms above the message's", func(m *api.Msg) { m.Entries[1].Term = 8 }),
		but(send, "an entry of the Term 0", func(m *api.Msg) { m.Place, m.Entries[0].Term = api.At{}, 0 }),
		but(send, "an entry of the Kind 0", func(m *api.Msg) { m.Entries[0].Kind = 0 }),
		but(send, "an entry of the Kind 4", func(m *api.Msg) { m.Entries[1].Kind = 4 }),
		but(send, "an entry of the Kind 258", func(m *api.Msg) { m.Entries[1].Kind = 258 }),
		but(send, "an EntNone with Data", func(m *api.Msg) { m.Entries[1].Kind = api.EntNone }),
		but(send, "an entry of 1025 bytes", func(m *api.Msg) { m.Entries[0].Data = bytesOf(1025) }),
		but(send, "an EntConf of 1025 bytes", func(m *api.Msg) { m.Entries[0].Kind, m.Entries[0].Data = api.EntConf, bytesOf(1025) }),
		but(snap, "a snapshot without a place", func(m *api.Msg) { m.Place = api.At{} }),
		but(snap, "a snapshot's place without an Index", func(m *api.Msg) { m.Place.Index = 0 }),
		but(snap, "a snapshot's place without a Term", func(m *api.Msg) { m.Place.Term = 0 }),
		but(snap, "a snapshot's place above the Term", func(m *api.Msg) { m.Place.Term = 8 }),
		but(snap, "a snapshot's place at 2^64 - 1", func(m *api.Msg) { m.Place.Index = top }),
		but(snap, "6 members", func(m *api.Msg) { m.Conf = conf(1, 2, 3, 4, 5, 6) }),
		but(snap, "a member 0", func(m *api.Msg) { m.Conf = conf(1, 0) }),
		but(snap, "a member 256", func(m *api.Msg) { m.Conf = conf(256, 1) }),
		but(snap, "a member -1", func(m *api.Msg) { m.Conf = conf(-1) }),
		but(snap, "65537 bytes", func(m *api.Msg) { m.Data = bytesOf(65537) }),
	}
	return append(list, tooMuch()...)
}

// tooMuch are messages with a field that is not zero and does not count.
func tooMuch() []named {
	var list []named
	for _, q := range []struct {
		name string
		not  []int
		do   func(m *api.Msg)
	}{
		{"Place", []int{api.MsgVoted}, func(m *api.Msg) { m.Place = at(1, 1) }},
		{"Place.Index", []int{api.MsgVoted}, func(m *api.Msg) { m.Place.Index = 1 }},
		{"Place.Term", []int{api.MsgVoted}, func(m *api.Msg) { m.Place.Term = 1 }},
		{"Entries", []int{api.MsgVote, api.MsgVoted, api.MsgAppended, api.MsgSnap}, func(m *api.Msg) { m.Entries = nones(m.Term) }},
		{"Entries, a zero one", []int{api.MsgVote, api.MsgVoted, api.MsgAppended, api.MsgSnap}, func(m *api.Msg) { m.Entries = []api.Entry{{}} }},
		{"Commit", []int{api.MsgVote, api.MsgVoted, api.MsgAppended, api.MsgSnap}, func(m *api.Msg) { m.Commit = 1 }},
		{"Commit 2^64 - 1", []int{api.MsgVote, api.MsgVoted, api.MsgAppended, api.MsgSnap}, func(m *api.Msg) { m.Commit = top }},
		{"Ok", []int{api.MsgVote, api.MsgAppend, api.MsgSnap}, func(m *api.Msg) { m.Ok = true }},
		{"Conf", []int{api.MsgVote, api.MsgVoted, api.MsgAppend, api.MsgAppended}, func(m *api.Msg) { m.Conf = conf(1) }},
		{"Conf of 0", []int{api.MsgVote, api.MsgVoted, api.MsgAppend, api.MsgAppended}, func(m *api.Msg) { m.Conf = conf(0) }},
		{"Data", []int{api.MsgVote, api.MsgVoted, api.MsgAppend, api.MsgAppended}, func(m *api.Msg) { m.Data = []byte{0} }},
	} {
		for _, o := range ordinary() {
			for _, kind := range q.not {
				if m := deep(o.msg); m.Kind == kind {
					q.do(&m)
					list = append(list, named{o.name + " with " + q.name, m})
				}
			}
		}
	}
	return list
}

package log_test

import (
	"slices"
	"testing"

	"tallyhouse/api"
	"tallyhouse/log"
)

// offers are each few entries behind each place about a log.
func offersTo(l api.Log) []api.Log {
	var places []api.At
	for i := range uint64(len(l.Entries) + 5) {
		for term := range uint64(4) {
			places = append(places, at(l.Base.Index-3+i, term))
		}
	}
	var out []api.Log
	for _, prev := range places {
		for _, list := range fewTerms(1) {
			out = append(out, api.Log{Base: prev, Entries: list})
		}
	}
	return out
}

// P6.4: small logs and small offers, all of them, against what the chapter says.
func TestMeetAndTake(t *testing.T) {
	seen := map[api.Errno]int{}
	for _, l := range someLogs() {
		for _, o := range offersTo(l) {
			want, wrong := saidMeet(l, o.Base, o.Entries)
			if met, err := log.Meet(l, o.Base, o.Entries); met != want || err != wrong {
				t.Fatalf("Meet(%s; %s): %d %d, not %d %d", said(l), said(o), met, err, want, wrong)
			}
			wanted, last, wrong := saidTake(l, o.Base, o.Entries)
			if out, to, err := log.Take(l, o.Base, o.Entries); said(out) != wanted || to != last || err != wrong {
				t.Fatalf("Take(%s; %s): %s %d %d, not %s %d %d", said(l), said(o), said(out), to, err, wanted, last, wrong)
			}
			seen[wrong]++
		}
	}
	for _, err := range []api.Errno{api.OK, api.ErrArg, api.ErrNone} {
		if seen[err] < 1000 {
			t.Errorf("%d came %d times only", err, seen[err])
		}
	}
}

// offered is an offer to a log, and what comes of it.
type offered struct {
	name string
	log  api.Log
	prev api.At
	list []api.Entry
	met  int
	meet api.Errno
	want api.Log
	last uint64
	take api.Errno
}

// some are offers that are written out, with what the chapter says of each.
func some() []offered {
	l, old := behind(at(0, 0), 1, 1, 2), behind(at(4, 3), 3, 5)
	full := api.Log{Base: at(4, 3), Entries: alike(16, 3)}
	return []offered{
		{"no entries at Base", l, at(0, 0), nil, 0, api.OK, l, 0, api.OK},
		{"no entries amid", l, at(2, 1), nil, 0, api.OK, l, 2, api.OK},
		{"no entries at the end", l, at(3, 2), nil, 0, api.OK, l, 3, api.OK},
		{"no entries behind the end", l, at(4, 2), nil, 0, api.ErrNone, api.Log{}, 0, api.ErrNone},
		{"no entries, another Term", l, at(2, 2), nil, 0, api.ErrNone, api.Log{}, 0, api.ErrNone},
		{"no entries, Base's Index, another Term", l, at(0, 1), nil, 0, api.ErrNone, api.Log{}, 0, api.ErrNone},
		{"no entries below Base", old, at(1, 9), nil, 0, api.OK, old, 1, api.OK},
		{"no entries at 0", old, at(0, 0), nil, 0, api.OK, old, 0, api.OK},
		{"a place below Base without a Term", old, at(3, 0), entries(1), 1, api.OK, old, 4, api.OK},
		{"at Base, another Term", old, at(4, 2), entries(3, 5), 0, api.ErrNone, api.Log{}, 0, api.ErrNone},
		{"at Base", old, at(4, 3), entries(3, 5), 2, api.OK, old, 6, api.OK},
		{"met whole, the log is longer", old, at(4, 3), entries(3), 1, api.OK, old, 5, api.OK},
		{"met whole, below Base alone", old, at(1, 1), entries(1, 2), 2, api.OK, old, 3, api.OK},
		{"met whole, up to Base, of another Term", old, at(2, 1), entries(1, 1), 2, api.OK, old, 4, api.OK},
		{"met whole, from below Base", old, at(2, 1), entries(1, 1, 3, 5), 4, api.OK, old, 6, api.OK},
		{"met in part, longer", old, at(4, 3), entries(3, 5, 6), 2, api.OK, behind(at(4, 3), 3, 5, 6), 7, api.OK},
		{"met in part, cut", old, at(4, 3), entries(3, 6), 1, api.OK, behind(at(4, 3), 3, 6), 6, api.OK},
		{"met in part, below Base alone", old, at(2, 1), entries(1, 1, 4), 2, api.OK, behind(at(4, 3), 4), 5, api.OK},
		{"met in part, then below Base's Term", old, at(2, 1), entries(1, 1, 2), 2, api.OK, api.Log{}, 0, api.ErrArg},
		{"met in part, then met again", behind(at(4, 3), 3, 5), at(3, 1), entries(3, 4, 5), 1, api.OK, behind(at(4, 3), 4, 5), 6, api.OK},
		{"not met", l, at(0, 0), entries(2), 0, api.OK, behind(at(0, 0), 2), 1, api.OK},
		{"not met, at the end", l, at(3, 2), entries(2, 7), 0, api.OK, behind(at(0, 0), 1, 1, 2, 2, 7), 5, api.OK},
		{"not met, cut to the first", l, at(1, 1), entries(3), 0, api.OK, behind(at(0, 0), 1, 3), 2, api.OK},
		{"may not stand: Term 0", l, at(0, 0), entries(0), 0, api.ErrArg, api.Log{}, 0, api.ErrArg},
		{"may not stand: Terms fall", l, at(0, 0), entries(1, 3, 2), 0, api.ErrArg, api.Log{}, 0, api.ErrArg},
		{"may not stand: below the place's Term", l, at(9, 2), entries(1), 0, api.ErrArg, api.Log{}, 0, api.ErrArg},
		{"may not stand: no Kind", l, at(0, 0), []api.Entry{{Term: 1}}, 0, api.ErrArg, api.Log{}, 0, api.ErrArg},
		{"may not stand: Data of nothing", l, at(0, 0), []api.Entry{sized(1, api.EntNone, 1)}, 0, api.ErrArg, api.Log{}, 0, api.ErrArg},
		{"may not stand: too much Data", l, at(0, 0), []api.Entry{sized(1, api.EntConf, 1025)}, 0, api.ErrArg, api.Log{}, 0, api.ErrArg},
		{"may not stand, at what would be met", l, at(0, 0), append(entries(1, 1), sized(2, api.EntCommand, 1025)), 0, api.ErrArg, api.Log{}, 0, api.ErrArg},
		{"room for all", full, at(19, 3), entries(4), 0, api.OK, api.Log{Base: at(4, 3), Entries: append(alike(15, 3), entry(4))}, 20, api.OK},
		{"no room", full, at(20, 3), entries(3), 0, api.OK, api.Log{}, 0, api.ErrFull},
		{"no room for the last", full, at(19, 3), entries(4, 4), 0, api.OK, api.Log{}, 0, api.ErrFull},
		{"a long one that is met", full, at(0, 0), append(alike(4, 1), full.Entries...), 20, api.OK, full, 20, api.OK},
		{"a long one that makes it too long", full, at(0, 0), append(alike(4, 1), alike(17, 3)...), 20, api.OK, api.Log{}, 0, api.ErrFull},
		{"a long one, not met", api.Log{}, at(0, 0), alike(17, 1), 0, api.OK, api.Log{}, 0, api.ErrFull},
		{"a long one of the right length", api.Log{}, at(0, 0), alike(16, 1), 0, api.OK, api.Log{Entries: alike(16, 1)}, 16, api.OK},
	}
}

// great are offers whose last Index is about 2^64 - 2.
func great() []offered {
	l := behind(at(top-3, 3), 3)
	return []offered{
		{"to the last Index", l, at(top-3, 3), entries(3, 4), 1, api.OK, behind(at(top-3, 3), 3, 4), top - 1, api.OK},
		{"to 2^64 - 1", l, at(top-3, 3), entries(3, 4, 4), 0, api.ErrArg, api.Log{}, 0, api.ErrArg},
		{"to 2^64", l, at(top-3, 3), entries(3, 4, 4, 4), 0, api.ErrArg, api.Log{}, 0, api.ErrArg},
		{"from far below", l, at(top-5, 1), entries(1, 1, 3, 5), 3, api.OK, behind(at(top-3, 3), 3, 5), top - 1, api.OK},
		{"from far below to 2^64 - 1", l, at(top-5, 1), entries(1, 1, 3, 5, 5), 0, api.ErrArg, api.Log{}, 0, api.ErrArg},
		{"the last place", l, at(top-1, 3), nil, 0, api.ErrNone, api.Log{}, 0, api.ErrNone},
		{"the place 2^64 - 1", l, at(top, 3), nil, 0, api.ErrArg, api.Log{}, 0, api.ErrArg},
		{"behind the place 2^64 - 1", l, at(top, 3), entries(3), 0, api.ErrArg, api.Log{}, 0, api.ErrArg},
		{"2^64 - 1 of a small log", behind(at(0, 0), 1), at(top, 1), entries(1, 1), 0, api.ErrArg, api.Log{}, 0, api.ErrArg},
		{"far behind a small log", behind(at(0, 0), 1), at(top-2, 1), entries(1), 0, api.ErrNone, api.Log{}, 0, api.ErrNone},
		{"too great and below", behind(at(top-1, 1)), at(top-9, 1), alike(8, 1), 8, api.OK, behind(at(top-1, 1)), top - 1, api.OK},
		{"too great by one", behind(at(top-1, 1)), at(top-9, 1), alike(9, 1), 0, api.ErrArg, api.Log{}, 0, api.ErrArg},
		{"the greatest Terms", behind(at(1, top-1), top-1), at(2, top-1), entries(top, top), 0, api.OK, behind(at(1, top-1), top-1, top, top), 4, api.OK},
	}
}

// P6.4: the edges of offers.
func TestOffers(t *testing.T) {
	for _, q := range append(some(), great()...) {
		if met, err := log.Meet(q.log, q.prev, q.list); met != q.met || err != q.meet {
			t.Errorf("Meet, %s: %d %d, not %d %d", q.name, met, err, q.met, q.meet)
		}
		out, last, err := log.Take(q.log, q.prev, q.list)
		if said(out) != said(q.want) || last != q.last || err != q.take {
			t.Errorf("Take, %s: %s %d %d, not %s %d %d", q.name, said(out), last, err, said(q.want), q.last, q.take)
		}
	}
}

// P6.4: where the spots are the same, the log's own entries stay, whatever else is offered there.
func TestTakeGoesByTheSpots(t *testing.T) {
	l := behind(at(0, 0), 1, 1)
	list := []api.Entry{sized(1, api.EntConf, 9), {Term: 1, Kind: api.EntNone}, {Term: 1, Kind: api.EntNone}}
	out, last, err := log.Take(l, at(0, 0), list)
	same(t, "Take", out, api.Log{Entries: append(slices.Clone(l.Entries), list[2])}, err)
	if last != 3 {
		t.Errorf("last: %d", last)
	}
	out, _, err = log.Take(l, at(0, 0), list[:2])
	same(t, "Take of what is met", out, l, err)
}

// P6.4: an offer may be longer than a log.
func TestLongOffers(t *testing.T) {
	l := behind(at(100000, 2), 2, 3)
	list := alike(100000, 1)
	for _, more := range [][]api.Entry{nil, entries(2), entries(2, 3), entries(2, 3, 3)} {
		whole := append(slices.Clone(list), more...)
		if met, err := log.Meet(l, at(0, 0), whole); met != len(list)+min(2, len(more)) || err != api.OK {
			t.Errorf("Meet: %d %d", met, err)
		}
		want := l
		if len(more) > 2 {
			want = behind(at(100000, 2), more[0].Term, more[1].Term, more[2].Term)
		}
		out, last, err := log.Take(l, at(0, 0), whole)
		same(t, "Take", out, want, err)
		if last != uint64(len(whole)) {
			t.Errorf("Take: %d", last)
		}
	}
}

// P6.4: an offer that may not be is ErrArg, also of a place that is not there, and where all of it would be met.
func TestOffersThatMayNotBe(t *testing.T) {
	for _, l := range []api.Log{behind(at(0, 0), 1, 2), behind(at(30, 2)), {Base: at(7, 1), Entries: alike(16, 2)}} {
		for _, list := range wrongEntries() {
			for _, prev := range []api.At{at(1, 2), at(2, 2), at(7, 2), at(30, 2), at(900, 2), at(top-60, 2)} {
				if met, err := log.Meet(l, prev, list); met != 0 || err != api.ErrArg {
					t.Errorf("Meet(%s; %s): %d %d", said(l), text(prev, list), met, err)
				}
				if out, last, err := log.Take(l, prev, list); isLog(out) || last != 0 || err != api.ErrArg {
					t.Errorf("Take(%s; %s): %s %d %d", said(l), text(prev, list), said(out), last, err)
				}
			}
		}
	}
}

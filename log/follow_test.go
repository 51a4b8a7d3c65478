package log_test

import (
	"slices"
	"strconv"
	"testing"

	"tallyhouse/api"
	"tallyhouse/log"
)

// P6.6: behind a Take all of the offer is met, each spot ahead of the first one that was not is there still, and taken again it changes nothing.
func TestWhatFollowsOfTake(t *testing.T) {
	for _, l := range someLogs() {
		for _, o := range offersTo(l) {
			met, _ := log.Meet(l, o.Base, o.Entries)
			out, last, err := log.Take(l, o.Base, o.Entries)
			if err != api.OK {
				continue
			}
			if log.Check(out, top) != api.OK {
				t.Fatalf("Take(%s; %s): %s may not be", said(l), said(o), said(out))
			}
			if all, err := log.Meet(out, o.Base, o.Entries); all != len(o.Entries) || err != api.OK {
				t.Fatalf("Take(%s; %s): %s meets %d, %d", said(l), said(o), said(out), all, err)
			}
			for _, spot := range spotsOf(l) {
				if (met == len(o.Entries) || spot.Index <= o.Base.Index+uint64(met)) && !log.Has(out, spot) {
					t.Fatalf("Take(%s; %s): %s has not %v", said(l), said(o), said(out), spot)
				}
			}
			again, to, err := log.Take(out, o.Base, o.Entries)
			if said(again) != said(out) || to != last || err != api.OK {
				t.Fatalf("Take(%s; %s) again: %s %d %d", said(l), said(o), said(again), to, err)
			}
		}
	}
}

// group is some logs, each spot that was ever appended, and what chance they have.
type group struct {
	logs []api.Log
	made map[api.At]bool
	next uint64
}

// pick is a number below n, by a row that is always the same.
func (g *group) pick(n int) int {
	g.next = g.next*6364136223846793005 + 1442695040888963407
	return int(g.next >> 33 % uint64(n))
}

// grow appends one to a log, of a spot that is new.
func (g *group) grow(t *testing.T) {
	who := g.pick(len(g.logs))
	end := log.Last(g.logs[who])
	spot := at(end.Index+1, max(1, end.Term+uint64(g.pick(3))))
	if g.made[spot] {
		return
	}
	e := api.Entry{Term: spot.Term, Kind: api.EntCommand, Data: strconv.AppendInt(nil, int64(len(g.made)), 10)}
	out, to, err := log.Append(g.logs[who], e)
	if err == api.ErrFull && len(g.logs[who].Entries) == api.MaxLog {
		return
	}
	if err != api.OK || to != spot {
		t.Fatalf("Append(%s, Term %d): %v %d", said(g.logs[who]), spot.Term, to, err)
	}
	g.logs[who], g.made[spot] = out, true
}

// hand has one take from another one.
func (g *group) hand(t *testing.T) {
	from, to := g.pick(len(g.logs)), g.pick(len(g.logs))
	index := g.logs[from].Base.Index + 1 + uint64(g.pick(len(g.logs[from].Entries)+1))
	prev, list, err := log.From(g.logs[from], index, g.pick(api.MaxLog+1))
	if err != api.OK {
		t.Fatalf("From(%s, %d): %d", said(g.logs[from]), index, err)
	}
	out, _, err := log.Take(g.logs[to], prev, list)
	if err == api.OK {
		g.logs[to] = out
	}
	if isLog(out) && err != api.OK || !slices.Contains([]api.Errno{api.OK, api.ErrNone, api.ErrFull}, err) {
		t.Fatalf("Take(%s; %s): %s %d", said(g.logs[to]), text(prev, list), said(out), err)
	}
}

// giveUp compacts one at a spot that all have.
func (g *group) giveUp(t *testing.T) {
	who := g.pick(len(g.logs))
	spots := spotsOf(g.logs[who])
	spot := spots[g.pick(len(spots))]
	for _, l := range g.logs {
		if spot.Index > l.Base.Index && !log.Has(l, spot) {
			return
		}
	}
	out, err := log.Compact(g.logs[who], spot.Index)
	if err != api.OK || out.Base != spot {
		t.Fatalf("Compact(%s, %d): %s %d", said(g.logs[who]), spot.Index, said(out), err)
	}
	g.logs[who] = out
}

// entryAt is the entry of that Index as a text, if the log has it.
func entryAt(l api.Log, index uint64) (string, bool) {
	if index <= l.Base.Index || index > l.Base.Index+uint64(len(l.Entries)) {
		return "", false
	}
	return text(at(0, 0), l.Entries[index-l.Base.Index-1:][:1]), true
}

// agree fails the test, if two logs have one spot and unlike entries up to it.
func agree(t *testing.T, a, b api.Log) {
	for _, spot := range spotsOf(a) {
		if !log.Has(b, spot) {
			continue
		}
		for index := range spot.Index + 1 {
			one, inA := entryAt(a, index)
			two, inB := entryAt(b, index)
			if inA && inB && one != two {
				t.Fatalf("%s and %s have %v, and unlike entries at %d", said(a), said(b), spot, index)
			}
		}
	}
}

// P6.6: two logs of a group that have one spot have the same entries ahead of it.
func TestWhatFollowsOfManyLogs(t *testing.T) {
	parted, given := 0, 0
	for run := range 60 {
		g := &group{logs: make([]api.Log, 2+run%3), made: map[api.At]bool{}, next: uint64(run)}
		for range 200 {
			switch g.pick(6) {
			case 0, 1:
				g.grow(t)
			case 2, 3, 4:
				g.hand(t)
			case 5:
				g.giveUp(t)
			}
			for _, a := range g.logs {
				for _, b := range g.logs {
					agree(t, a, b)
				}
				if log.Check(a, top) != api.OK {
					t.Fatalf("%s may not be", said(a))
				}
			}
			if a, b := g.logs[0], g.logs[1]; !log.Has(a, log.Last(b)) && !log.Has(b, log.Last(a)) {
				parted++
			}
		}
		if g.logs[0].Base.Index > 10 {
			given++
		}
	}
	if parted < 1000 || given < 20 {
		t.Errorf("the logs parted %d times only, or %d alone gave up something", parted, given)
	}
}

package log_test

import (
	"math"
	"testing"

	"tallyhouse/api"
	"tallyhouse/log"
)

// wrongEntries may stand behind no Term at all, or not behind Term 2.
func wrongEntries() [][]api.Entry {
	out := [][]api.Entry{
		entries(0), entries(1), entries(3, 2), entries(2, 3, 0), entries(3, 3, 2), append(alike(16, 3), entry(2)), append(alike(40, 3), entry(0)),
		{{}}, {entry(3), {}}, {sized(0, api.EntNone, 0)}, {sized(0, api.EntConf, 0)}, {sized(3, api.EntNone, 1)}, {sized(3, api.EntCommand, 1025)}, {sized(3, api.EntConf, 1025)}, {entry(3), sized(3, api.EntConf, 1025)},
	}
	for _, kind := range []int{math.MinInt, -1, 0, 4, 257, math.MaxInt} {
		out = append(out, []api.Entry{{Term: 3, Kind: kind}}, []api.Entry{entry(3), {Term: 3, Kind: kind}})
	}
	return out
}

// P6.3: the log with them behind all, and its end.
func TestExtend(t *testing.T) {
	for _, l := range someLogs() {
		last, _ := saidEnd(l.Base.Index, len(l.Entries))
		for _, list := range fewTerms(0) {
			out, end, err := log.Extend(l, list)
			whole := append(append([]api.Entry{}, l.Entries...), list...)
			want, wanted, wrong := api.Log{Base: l.Base, Entries: whole}, api.At{}, api.OK
			index, right := saidEnd(last, len(list))
			switch {
			case !saidStand(saidSpots(l.Base, l.Entries)[last], list):
				want, wrong = api.Log{}, api.ErrArg
			case !right:
				want, wrong = api.Log{}, api.ErrFull
			default:
				wanted = at(index, saidSpots(l.Base, whole)[index])
			}
			if said(out) != said(want) || end != wanted || err != wrong {
				t.Errorf("Extend(%s, %s): %s %v %d", said(l), text(at(0, 0), list), said(out), end, err)
			}
			if err == api.OK && log.Check(out, end.Term) != api.OK {
				t.Errorf("Extend(%s, %s) may not be", said(l), text(at(0, 0), list))
			}
		}
	}
}

// P6.3: what may not stand is ErrArg, also where there is no room for it.
func TestExtendByWhatMayNotStand(t *testing.T) {
	for _, l := range []api.Log{behind(at(0, 0), 1, 2), behind(at(7, 2)), {Base: at(7, 1), Entries: alike(16, 2)}, behind(at(top-1, 2)), behind(at(top-2, 1), 2)} {
		for _, list := range wrongEntries() {
			if out, end, err := log.Extend(l, list); isLog(out) || end != at(0, 0) || err != api.ErrArg {
				t.Errorf("Extend(%s, %s): %s %v %d", said(l), text(at(0, 0), list), said(out), end, err)
			}
			if len(list) > 1 {
				continue
			}
			if out, end, err := log.Append(l, list[0]); isLog(out) || end != at(0, 0) || err != api.ErrArg {
				t.Errorf("Append(%s, %s): %s %v %d", said(l), text(at(0, 0), list), said(out), end, err)
			}
		}
	}
}

// P6.3: 16 entries, and an end at 2^64 - 2, but no more.
func TestExtendTillItIsFull(t *testing.T) {
	for ahead := range 17 {
		for more := range 34 {
			for _, base := range []api.At{at(0, 0), at(5, 3), at(top-17, 3), at(top-16, 3), at(top-9, 3)} {
				l := api.Log{Base: base, Entries: alike(ahead, 3)}
				if !saidMayBe(l) {
					continue
				}
				list := alike(more, 4)
				out, end, err := log.Extend(l, list)
				whole := api.Log{Base: base, Entries: append(alike(ahead, 3), list...)}
				if !saidMayBe(whole) {
					if isLog(out) || end != at(0, 0) || err != api.ErrFull {
						t.Errorf("%v, %d and %d: %s %v %d", base, ahead, more, said(out), end, err)
					}
					continue
				}
				same(t, "Extend", out, whole, err)
				if end.Index != base.Index+uint64(ahead+more) {
					t.Errorf("%v, %d and %d: %v", base, ahead, more, end)
				}
			}
		}
	}
	for _, list := range [][]api.Entry{{sized(1, api.EntCommand, 1024)}, {sized(1, api.EntConf, 1024)}, {{Term: 1, Kind: api.EntNone, Data: []byte{}}}} {
		out, _, err := log.Extend(api.Log{}, list)
		same(t, "Extend", out, api.Log{Entries: list}, err)
	}
}

// P6.3: Append is Extend by one.
func TestAppend(t *testing.T) {
	all := append(someLogs(), api.Log{Entries: alike(15, 1)}, api.Log{Entries: alike(16, 1)})
	for _, l := range all {
		for _, e := range []api.Entry{entry(0), entry(1), entry(2), entry(3), entry(top), {Term: 3, Kind: api.EntNone}, {Term: 3, Kind: 4}, sized(3, api.EntConf, 1024), sized(3, api.EntConf, 1025)} {
			a, end, err := log.Append(l, e)
			b, last, other := log.Extend(l, []api.Entry{e})
			if said(a) != said(b) || end != last || err != other {
				t.Errorf("Append(%s, Term %d): %s %v %d", said(l), e.Term, said(a), end, err)
			}
		}
	}
	out, end, err := log.Append(behind(at(5, 2), 2), entry(3))
	same(t, "Append", out, behind(at(5, 2), 2, 3), err)
	if end != at(7, 3) {
		t.Errorf("Append: %v", end)
	}
}

// indexesOf are the Indexes about all spots of a log, and at both ends of the numbers.
func indexesOf(l api.Log) []uint64 {
	out := []uint64{0, 1, 2, 1 << 63, top - 1, top}
	for i := range uint64(len(l.Entries) + 6) {
		out = append(out, l.Base.Index-3+i)
	}
	return out
}

// P6.3: Cut keeps what is ahead of the Index, Compact what is behind it.
func TestCutAndCompact(t *testing.T) {
	all := append(someLogs(), api.Log{Base: at(9, 4), Entries: alike(16, 4)}, api.Log{Base: at(top-17, 1), Entries: alike(16, 1)})
	for _, l := range all {
		end, _ := saidEnd(l.Base.Index, len(l.Entries))
		for _, index := range indexesOf(l) {
			cut, small := api.Log{}, api.Log{}
			noCut, noSmall := api.ErrNone, api.ErrNone
			if index > l.Base.Index && (index <= end || index-end == 1) {
				cut, noCut = api.Log{Base: l.Base, Entries: l.Entries[:index-l.Base.Index-1]}, api.OK
			}
			if index >= l.Base.Index && index <= end {
				small, noSmall = api.Log{Base: at(index, saidSpots(l.Base, l.Entries)[index]), Entries: l.Entries[index-l.Base.Index:]}, api.OK
			}
			if out, err := log.Cut(l, index); said(out) != said(cut) || err != noCut {
				t.Errorf("Cut(%s, %d): %s %d", said(l), index, said(out), err)
			}
			if out, err := log.Compact(l, index); said(out) != said(small) || err != noSmall {
				t.Errorf("Compact(%s, %d): %s %d", said(l), index, said(out), err)
			}
			if noCut == api.OK && !saidMayBe(cut) || noSmall == api.OK && !saidMayBe(small) {
				t.Errorf("of %s at %d comes what may not be", said(l), index)
			}
		}
	}
}

package log_test

import (
	"bytes"
	"math"
	"slices"
	"testing"

	"tallyhouse/api"
	"tallyhouse/log"
)

// three is the chapter's L.
func three() api.Log {
	return behind(at(0, 0), 1, 1, 2)
}

// P6.2 to P6.5: the chapter's examples.
func TestExamples(t *testing.T) {
	l := three()
	if end := log.Last(l); end != at(3, 2) {
		t.Errorf("Last: %v", end)
	}
	if term, there := log.Term(l, 2); term != 1 || !there {
		t.Errorf("Term 2: %d %v", term, there)
	}
	if term, there := log.Term(l, 0); term != 0 || !there {
		t.Errorf("Term 0: %d %v", term, there)
	}
	if log.Has(l, at(3, 1)) {
		t.Error("Has 3 1")
	}
	if met, err := log.Meet(l, at(1, 1), entries(1, 2, 2)); met != 2 || err != api.OK {
		t.Errorf("Meet: %d %d", met, err)
	}
	if _, err := log.Meet(l, at(3, 1), nil); err != api.ErrNone {
		t.Errorf("Meet 3 1: %d", err)
	}
	out, last, err := log.Take(l, at(1, 1), entries(1, 2, 2))
	same(t, "Take", out, behind(at(0, 0), 1, 1, 2, 2), err)
	if last != 4 {
		t.Errorf("Take: %d", last)
	}
	out, last, err = log.Take(l, at(2, 1), entries(3))
	same(t, "Take behind 2 1", out, behind(at(0, 0), 1, 1, 3), err)
	if last != 3 {
		t.Errorf("Take behind 2 1: %d", last)
	}
	out, err = log.Cut(l, 2)
	same(t, "Cut 2", out, behind(at(0, 0), 1), err)
	out, err = log.Cut(l, 4)
	same(t, "Cut 4", out, l, err)
	if _, err = log.Cut(l, 5); err != api.ErrNone {
		t.Errorf("Cut 5: %d", err)
	}
	out, err = log.Compact(l, 2)
	same(t, "Compact", out, behind(at(2, 1), 2), err)
	prev, list, err := log.From(out, 3, 9)
	same(t, "From", api.Log{Base: prev, Entries: list}, behind(at(2, 1), 2), err)
	if _, _, err = log.Append(l, entry(1)); err != api.ErrArg {
		t.Errorf("Append: %d", err)
	}
	if _, end, err := log.Extend(l, entries(2, 5)); end != at(5, 5) || err != api.OK {
		t.Errorf("Extend: %v %d", end, err)
	}
}

// same fails the test, if a log that was answered is another one than is wanted, or there is an error.
func same(t *testing.T, name string, got, want api.Log, err api.Errno) {
	t.Helper()
	if said(got) != said(want) || err != api.OK {
		t.Errorf("%s: %s %d, not %s", name, said(got), err, said(want))
	}
}

// P6.1: the end's Term is Base's, if there are no entries.
func TestCheckHoldsTheEndAgainstTop(t *testing.T) {
	for _, q := range []struct {
		log  api.Log
		term uint64
	}{
		{api.Log{}, 0}, {behind(at(0, 0), 1), 1}, {three(), 2}, {behind(at(7, 5)), 5}, {behind(at(7, 5), 5, 9), 9}, {behind(at(1, top-1)), top - 1}, {behind(at(1, 1), top-1), top - 1},
	} {
		for d := uint64(0); d < 3; d++ {
			if err := log.Check(q.log, q.term+d); err != api.OK && q.term+d >= q.term {
				t.Errorf("Check(%s, %d): %d", said(q.log), q.term+d, err)
			}
			if err := log.Check(q.log, q.term-d); d > 0 && d <= q.term && err != api.ErrArg {
				t.Errorf("Check(%s, %d): %d", said(q.log), q.term-d, err)
			}
		}
	}
	if err := log.Check(three(), 0); err != api.ErrArg {
		t.Errorf("top 0: %d", err)
	}
}

// P6.1: logs that just may be.
func TestCheckTakesWhatJustMayBe(t *testing.T) {
	for _, q := range justLogs() {
		if err := log.Check(q.log, top); err != api.OK {
			t.Errorf("%s: %d", q.name, err)
		}
	}
	for _, l := range someLogs() {
		if err := log.Check(l, 3); err != api.OK {
			t.Errorf("%s: %d", said(l), err)
		}
	}
}

// P6.1 to P6.5: a log that may not be is ErrLog, whatever else is wrong, and of the other calls nothing.
func TestWrongLogs(t *testing.T) {
	for _, q := range wrongLogs() {
		for name, err := range errorsOf(q.log) {
			if err != api.ErrLog {
				t.Errorf("%s of %s: %d", name, q.name, err)
			}
		}
		if end := log.Last(q.log); end != at(0, 0) {
			t.Errorf("Last of %s: %v", q.name, end)
		}
		base := q.log.Base.Index
		for _, index := range []uint64{0, 1, 2, 3, base - 1, base, base + 1, base + 2, base + 16, base + 17, top - 1, top} {
			if term, there := log.Term(q.log, index); term != 0 || there {
				t.Errorf("Term of %s, %d: %d %v", q.name, index, term, there)
			}
			for term := range uint64(5) {
				if log.Has(q.log, at(index, term)) {
					t.Errorf("%s has %d %d", q.name, index, term)
				}
			}
			for _, l := range []api.Log{q.log, withConfs(q.log)} {
				if where, data, there := log.Conf(l, index); where != 0 || len(data) > 0 || there {
					t.Errorf("Conf of %s, %d: %d %q %v", q.name, index, where, data, there)
				}
			}
		}
	}
}

// withConfs is the same log with entries of the Kind EntConf, where commands were.
func withConfs(l api.Log) api.Log {
	l.Entries = slices.Clone(l.Entries)
	for i := range l.Entries {
		if l.Entries[i].Kind == api.EntCommand {
			l.Entries[i].Kind = api.EntConf
		}
	}
	return l
}

// errorsOf is what the calls answer of a log, with arguments that are right elsewhere, and with ones that are not; ErrThere, which no call answers, where there is something beside an error.
func errorsOf(l api.Log) map[string]api.Errno {
	out := map[string]api.Errno{}
	set := func(name string, some bool, err api.Errno) {
		if some && err != api.OK {
			err = api.ErrThere
		}
		if was, there := out[name]; there && was != err {
			name += ", otherwise"
		}
		out[name] = err
	}
	for _, x := range []uint64{0, 1, top} {
		set("Check", false, log.Check(l, x))
	}
	for _, list := range [][]api.Entry{nil, entries(9), entries(0), entries(2, 1), alike(17, 9), {{}}} {
		grown, end, err := log.Extend(l, list)
		set("Extend", isLog(grown) || end != at(0, 0), err)
		for _, prev := range []api.At{{}, l.Base, at(0, 1), at(1, 1), at(top, 1), at(top-1, 9)} {
			met, err := log.Meet(l, prev, list)
			set("Meet", met != 0, err)
			taken, last, err := log.Take(l, prev, list)
			set("Take", isLog(taken) || last != 0, err)
		}
	}
	for _, e := range []api.Entry{{}, entry(1), entry(top)} {
		grown, end, err := log.Append(l, e)
		set("Append", isLog(grown) || end != at(0, 0), err)
	}
	for _, index := range []uint64{0, 1, 2, l.Base.Index, l.Base.Index + 1, l.Base.Index + 2, top} {
		cut, err := log.Cut(l, index)
		set("Cut", isLog(cut), err)
		small, err := log.Compact(l, index)
		set("Compact", isLog(small), err)
		for _, n := range []int{math.MinInt, -1, 0, 1, math.MaxInt} {
			prev, list, err := log.From(l, index, n)
			set("From", prev != at(0, 0) || len(list) > 0, err)
		}
	}
	return out
}

// P6.1: whatever the logs are; nil and empty are one, each other field counts.
func TestSame(t *testing.T) {
	all := others(three())
	all = append(all, others(behind(at(4, 1), 1))...)
	all = append(all, api.Log{}, api.Log{Entries: []api.Entry{{}}}, api.Log{Entries: []api.Entry{{}, {}}}, behind(at(0, 0), 1, 2, 2))
	for i, a := range all {
		for j, b := range all {
			if log.Same(a, b) != (i == j) {
				t.Errorf("Same of %s and %s", said(a), said(b))
			}
		}
	}
	for _, q := range append(justLogs(), wrongLogs()...) {
		copied := api.Log{Base: q.log.Base, Entries: slices.Clone(q.log.Entries)}
		for i := range copied.Entries {
			copied.Entries[i].Data = bytes.Clone(copied.Entries[i].Data)
		}
		if !log.Same(q.log, copied) {
			t.Errorf("%s is not the same as its copy", q.name)
		}
	}
	bare, full := api.Log{Entries: []api.Entry{{Term: 1, Kind: 1}}}, api.Log{Entries: []api.Entry{{Term: 1, Kind: 1, Data: []byte{}}}}
	if !log.Same(bare, full) || !log.Same(full, bare) || !log.Same(api.Log{}, api.Log{Entries: []api.Entry{}}) {
		t.Error("nil and empty")
	}
}

// others is a log, and the same one but for one field each.
func others(l api.Log) []api.Log {
	out := []api.Log{l}
	for _, base := range []api.At{at(l.Base.Index+1, l.Base.Term), at(l.Base.Index, l.Base.Term+1), at(l.Base.Index+1<<32, l.Base.Term)} {
		out = append(out, api.Log{Base: base, Entries: l.Entries})
	}
	out = append(out, api.Log{Base: l.Base, Entries: l.Entries[1:]}, api.Log{Base: l.Base, Entries: append(slices.Clone(l.Entries), entry(9))})
	for i, e := range l.Entries {
		data := bytes.Clone(e.Data)
		data[0]++
		for _, with := range []api.Entry{
			{Term: e.Term + 1<<40, Kind: e.Kind, Data: e.Data}, {Term: 0, Kind: e.Kind, Data: e.Data},
			{Term: e.Term, Kind: api.EntConf, Data: e.Data}, {Term: e.Term, Kind: -7, Data: e.Data},
			{Term: e.Term, Kind: e.Kind, Data: data}, {Term: e.Term, Kind: e.Kind, Data: e.Data[1:]}, {Term: e.Term, Kind: e.Kind},
			{Term: e.Term, Kind: e.Kind, Data: append(bytes.Clone(e.Data), 0)},
		} {
			list := slices.Clone(l.Entries)
			list[i] = with
			out = append(out, api.Log{Base: l.Base, Entries: list})
		}
	}
	return out
}

// P6.2: of all logs that just may be each spot, and none ahead of Base or behind the end.
func TestLastTermHas(t *testing.T) {
	all := someLogs()
	for _, q := range justLogs() {
		all = append(all, q.log)
	}
	for _, l := range all {
		spots := saidSpots(l.Base, l.Entries)
		end, _ := saidEnd(l.Base.Index, len(l.Entries))
		if last := log.Last(l); last != at(end, spots[end]) {
			t.Errorf("Last of %s: %v", said(l), last)
		}
		indexes := []uint64{0, 1, 2, 3, l.Base.Index - 2, l.Base.Index - 1, l.Base.Index, end - 1, end, end + 1, end + 2, top - 1, top}
		for i := range l.Entries {
			indexes = append(indexes, l.Base.Index+uint64(i))
		}
		for _, index := range indexes {
			want, is := spots[index]
			if term, there := log.Term(l, index); term != want || there != is {
				t.Errorf("Term of %s, %d: %d %v", said(l), index, term, there)
			}
			for _, term := range []uint64{0, 1, 2, 3, 4, want - 1, want, want + 1, top} {
				if log.Has(l, at(index, term)) != (is && term == want) {
					t.Errorf("%s: Has(%d %d)", said(l), index, term)
				}
			}
		}
	}
}

// P6.2: the Term goes ahead of the Index.
func TestNewer(t *testing.T) {
	rising := []api.At{at(0, 0), at(1, 0), at(top, 0), at(0, 1), at(1, 1), at(2, 1), at(1<<63, 1), at(top, 1), at(0, 2), at(5, 1<<63), at(top, top-1), at(0, top), at(top-1, top), at(top, top)}
	for i, a := range rising {
		for j, b := range rising {
			if log.Newer(a, b) != (i > j) {
				t.Errorf("Newer(%v, %v)", a, b)
			}
		}
	}
}

// P6.5: the place ahead, and as many entries as are asked for and are there.
func TestFrom(t *testing.T) {
	all := append(someLogs(), api.Log{Base: at(9, 4), Entries: alike(16, 4)}, api.Log{Base: at(top-17, 1), Entries: alike(16, 1)})
	for _, l := range all {
		end, _ := saidEnd(l.Base.Index, len(l.Entries))
		spots := saidSpots(l.Base, l.Entries)
		for _, index := range []uint64{0, 1, 2, 3, 4, 5, l.Base.Index - 1, l.Base.Index, l.Base.Index + 1, l.Base.Index + 2, end - 1, end, end + 1, end + 2, top - 1, top} {
			for _, n := range []int{math.MinInt, -1, 0, 1, 2, 3, 4, 15, 16, 17, math.MaxInt} {
				prev, list, err := log.From(l, index, n)
				wanted, want := api.At{}, []api.Entry{}
				wrong := api.OK
				switch {
				case index <= l.Base.Index || index > end && index-end > 1:
					wrong = api.ErrNone
				case n < 0:
					wrong = api.ErrArg
				default:
					wanted, want = at(index-1, spots[index-1]), l.Entries[index-l.Base.Index-1:]
					want = want[:min(n, len(want))]
				}
				if err != wrong || text(prev, list) != text(wanted, want) {
					t.Errorf("From(%s, %d, %d): %s %d", said(l), index, n, text(prev, list), err)
				}
			}
		}
	}
}

// P6.5: of several Confs the last one at or below the Index, and none of another Kind.
func TestConf(t *testing.T) {
	conf := func(term uint64, data string) api.Entry {
		return api.Entry{Term: term, Kind: api.EntConf, Data: []byte(data)}
	}
	l := api.Log{Base: at(10, 2), Entries: []api.Entry{entry(2), conf(2, "a"), {Term: 2, Kind: api.EntNone}, conf(3, "b"), conf(3, ""), entry(4)}}
	for _, q := range []struct {
		index, where uint64
		data         string
	}{{0, 0, ""}, {9, 0, ""}, {10, 0, ""}, {11, 0, ""}, {12, 12, "a"}, {13, 12, "a"}, {14, 14, "b"}, {15, 15, ""}, {16, 15, ""}, {17, 15, ""}, {18, 15, ""}, {top, 15, ""}} {
		where, data, there := log.Conf(l, q.index)
		if where != q.where || string(data) != q.data || there != (q.where > 0) {
			t.Errorf("Conf %d: %d %q %v", q.index, where, data, there)
		}
	}
	for _, l := range []api.Log{{}, behind(at(5, 5)), behind(at(5, 5), 5, 6), three(), {Entries: []api.Entry{{Term: 1, Kind: api.EntNone}}}} {
		for _, index := range []uint64{0, 1, 3, 5, 6, 7, top} {
			if where, data, there := log.Conf(l, index); where != 0 || len(data) > 0 || there {
				t.Errorf("Conf of %s, %d: %d %q %v", said(l), index, where, data, there)
			}
		}
	}
	for _, base := range []api.At{at(0, 0), at(top-2, 1)} {
		l := api.Log{Base: base, Entries: []api.Entry{conf(1, "x")}}
		for _, q := range []struct {
			index uint64
			there bool
		}{{base.Index, false}, {base.Index + 1, true}, {base.Index + 2, true}, {top, true}} {
			if where, data, there := log.Conf(l, q.index); there != q.there || there && (where != base.Index+1 || string(data) != "x") {
				t.Errorf("Conf of %s, %d: %d %q %v", said(l), q.index, where, data, there)
			}
		}
	}
}

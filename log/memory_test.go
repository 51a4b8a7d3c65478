package log_test

import (
	"bytes"
	"slices"
	"testing"

	"tallyhouse/api"
	"tallyhouse/log"
)

// roomy is entries with room behind their list and behind each one's Data, in which something stands.
func roomy(list []api.Entry) []api.Entry {
	out := make([]api.Entry, 0, len(list)+40)
	for _, e := range list {
		data := append(append(make([]byte, 0, len(e.Data)+40), e.Data...), "behind"...)
		e.Data = data[:len(e.Data)]
		out = append(out, e)
	}
	whole := append(out, entries(91, 92, 93)...)
	return whole[:len(list)]
}

// whole is entries with what stands in their room, as a text.
func whole(list []api.Entry) string {
	all := slices.Clone(list[:cap(list)])
	for i := range all {
		all[i].Data = all[i].Data[:cap(all[i].Data)]
	}
	return text(at(0, 0), all)
}

// spoil writes over entries, all room of them included.
func spoil(list []api.Entry) {
	list = list[:cap(list)]
	for i := range list {
		data := list[i].Data[:cap(list[i].Data)]
		for j := range data {
			data[j] = 0xEE
		}
		list[i] = api.Entry{Term: 77, Kind: 78, Data: data}
	}
}

// answers are the calls that answer lists, each with what it answers of a log and of entries.
func answers() map[string]func(l api.Log, list []api.Entry) []api.Entry {
	return map[string]func(l api.Log, list []api.Entry) []api.Entry{
		"Extend": func(l api.Log, list []api.Entry) []api.Entry {
			out, _, _ := log.Extend(l, list)
			return out.Entries
		},
		"Extend by none": func(l api.Log, list []api.Entry) []api.Entry {
			out, _, _ := log.Extend(l, nil)
			return out.Entries
		},
		"Append": func(l api.Log, list []api.Entry) []api.Entry {
			out, _, _ := log.Append(l, list[0])
			return out.Entries
		},
		"Cut": func(l api.Log, list []api.Entry) []api.Entry {
			out, _ := log.Cut(l, 8)
			return out.Entries
		},
		"Cut of none": func(l api.Log, list []api.Entry) []api.Entry {
			out, _ := log.Cut(l, 9)
			return out.Entries
		},
		"Compact": func(l api.Log, list []api.Entry) []api.Entry {
			out, _ := log.Compact(l, 6)
			return out.Entries
		},
		"Compact of none": func(l api.Log, list []api.Entry) []api.Entry {
			out, _ := log.Compact(l, 5)
			return out.Entries
		},
		"Take, cut": func(l api.Log, list []api.Entry) []api.Entry {
			out, _, _ := log.Take(l, at(6, 1), list)
			return out.Entries
		},
		"Take, longer": func(l api.Log, list []api.Entry) []api.Entry {
			out, _, _ := log.Take(l, at(8, 3), list)
			return out.Entries
		},
		"Take, met": func(l api.Log, list []api.Entry) []api.Entry {
			out, _, _ := log.Take(l, at(2, 1), list[:0])
			return out.Entries
		},
		"From": func(l api.Log, list []api.Entry) []api.Entry {
			_, out, _ := log.From(l, 6, 2)
			return out
		},
		"From, all": func(l api.Log, list []api.Entry) []api.Entry {
			_, out, _ := log.From(l, 6, 9)
			return out
		},
		"Conf": func(l api.Log, list []api.Entry) []api.Entry {
			_, data, _ := log.Conf(l, 8)
			return []api.Entry{{Data: data}}
		},
	}
}

// R3: what is handed in is not changed, the room behind it neither; what is answered is in memory of its own.
func TestMemory(t *testing.T) {
	for name, call := range answers() {
		list := roomy(entries(3, 4))
		l := api.Log{Base: at(5, 1), Entries: roomy([]api.Entry{entry(1), sized(3, api.EntConf, 5), sized(3, api.EntConf, 6)})}
		was, wasList := whole(l.Entries), whole(list)
		out := call(l, list)
		if len(out) == 0 {
			t.Errorf("%s answers nothing", name)
		}
		if whole(l.Entries) != was || whole(list) != wasList {
			t.Errorf("%s changed what it was given", name)
		}
		answered := text(at(0, 0), out)
		spoil(l.Entries)
		spoil(list)
		if text(at(0, 0), out) != answered {
			t.Errorf("%s kept what it was given", name)
		}
	}
}

// R3: whoever writes over an answer, the room behind it included, does not change what was handed in.
func TestMemoryOfAnswers(t *testing.T) {
	for name, call := range answers() {
		list := roomy(entries(3, 4))
		l := api.Log{Base: at(5, 1), Entries: roomy([]api.Entry{entry(1), sized(3, api.EntConf, 5), sized(3, api.EntConf, 6)})}
		was, wasList := whole(l.Entries), whole(list)
		spoil(call(l, list))
		if whole(l.Entries) != was || whole(list) != wasList {
			t.Errorf("%s answered what it was given", name)
		}
	}
}

// R3: no two lists of an answer share anything, also where those that were handed in do.
func TestMemoryIsShared(t *testing.T) {
	data := []byte("both")
	e := api.Entry{Term: 3, Kind: api.EntConf, Data: data}
	l := api.Log{Base: at(5, 1), Entries: []api.Entry{e, e, e}}
	for name, call := range answers() {
		out := call(l, []api.Entry{e, e})
		for i := range out {
			before := text(at(0, 0), append(slices.Clone(out[:i]), out[i+1:]...))
			was := bytes.Clone(out[i].Data)
			spoil(out[i : i+1 : i+1])
			if text(at(0, 0), append(slices.Clone(out[:i]), out[i+1:]...)) != before {
				t.Errorf("%s: entry %d shares its Data", name, i)
			}
			out[i] = api.Entry{Term: e.Term, Kind: e.Kind, Data: was}
		}
	}
}

// R5: what a call answers hangs on nothing that was asked ahead of it.
func TestAnswersAreTheSameAgain(t *testing.T) {
	l, list := three(), entries(1, 2, 2)
	first, _, _ := log.Take(l, at(1, 1), list)
	for range 3 {
		log.Extend(l, entries(9, 9))
		log.Cut(l, 1)
		log.Compact(l, 3)
		again, _, _ := log.Take(l, at(1, 1), list)
		if said(again) != said(first) || said(l) != said(three()) {
			t.Errorf("Take: %s, then %s", said(first), said(again))
		}
	}
}

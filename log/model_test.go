package log_test

import (
	"bytes"
	"math"
	"math/bits"
	"slices"
	"strconv"

	"tallyhouse/api"
	"tallyhouse/log"
)

const top = math.MaxUint64

func at(index, term uint64) api.At {
	return api.At{Index: index, Term: term}
}

// entry is a command of that Term, whose Data says so.
func entry(term uint64) api.Entry {
	return api.Entry{Term: term, Kind: api.EntCommand, Data: strconv.AppendUint([]byte("of "), term, 10)}
}

func entries(terms ...uint64) []api.Entry {
	var out []api.Entry
	for _, term := range terms {
		out = append(out, entry(term))
	}
	return out
}

func behind(base api.At, terms ...uint64) api.Log {
	return api.Log{Base: base, Entries: entries(terms...)}
}

// alike is so many entries of one Term.
func alike(count int, term uint64) []api.Entry {
	return entries(slices.Repeat([]uint64{term}, count)...)
}

// sized is an entry of that Kind, with so many bytes.
func sized(term uint64, kind, size int) api.Entry {
	return api.Entry{Term: term, Kind: kind, Data: bytes.Repeat([]byte{7}, size)}
}

func isLog(l api.Log) bool {
	return l.Base != at(0, 0) || len(l.Entries) > 0
}

// text says a log whole, so that two of them can be held against each other without the package's own Same.
func text(base api.At, entries []api.Entry) string {
	b := strconv.AppendUint(nil, base.Index, 10)
	b = strconv.AppendUint(append(b, ' '), base.Term, 10)
	for _, e := range entries {
		b = strconv.AppendUint(append(b, " | "...), e.Term, 10)
		b = strconv.AppendInt(append(b, ' '), int64(e.Kind), 10)
		b = strconv.AppendQuote(append(b, ' '), string(e.Data))
	}
	return string(b)
}

func said(l api.Log) string {
	return text(l.Base, l.Entries)
}

// saidStand is the chapter's 'may stand behind'.
func saidStand(term uint64, list []api.Entry) bool {
	terms := []uint64{term}
	for _, e := range list {
		if e.Term == 0 || !slices.Contains([]int{1, 2, 3}, e.Kind) || len(e.Data) > 1024 || e.Kind == 1 && len(e.Data) > 0 {
			return false
		}
		terms = append(terms, e.Term)
	}
	return slices.IsSorted(terms)
}

// saidEnd is base's Index and count, and whether that is at most 2^64 - 2.
func saidEnd(index uint64, count int) (uint64, bool) {
	end, carry := bits.Add64(index, uint64(count), 0)
	return end, carry == 0 && end != top
}

func saidMayBe(l api.Log) bool {
	_, right := saidEnd(l.Base.Index, len(l.Entries))
	base := l.Base == at(0, 0) || l.Base.Index > 0 && l.Base.Term > 0
	return right && base && len(l.Entries) <= 16 && saidStand(l.Base.Term, l.Entries)
}

// saidSpots is the Term of each spot, by its Index.
func saidSpots(base api.At, list []api.Entry) map[uint64]uint64 {
	out := map[uint64]uint64{base.Index: base.Term}
	for i, e := range list {
		out[base.Index+1+uint64(i)] = e.Term
	}
	return out
}

// saidMeet is Meet, by what the chapter says of it.
func saidMeet(l api.Log, prev api.At, list []api.Entry) (int, api.Errno) {
	if !saidMayBe(l) {
		return 0, api.ErrLog
	}
	if _, right := saidEnd(prev.Index, len(list)); !right || !saidStand(prev.Term, list) {
		return 0, api.ErrArg
	}
	own := saidSpots(l.Base, l.Entries)
	term, there := own[prev.Index]
	if prev.Index >= l.Base.Index && (!there || term != prev.Term) {
		return 0, api.ErrNone
	}
	isMet := func(i int) bool {
		index := prev.Index + 1 + uint64(i)
		term, there := own[index]
		return index <= l.Base.Index || there && term == list[i].Term
	}
	for i := range list {
		if !isMet(i) {
			return i, api.OK
		}
	}
	return len(list), api.OK
}

// saidTake is Take: its log as a text, entry by entry by the Indexes, its number and its error.
func saidTake(l api.Log, prev api.At, list []api.Entry) (string, uint64, api.Errno) {
	met, err := saidMeet(l, prev, list)
	if err != api.OK {
		return said(api.Log{}), 0, err
	}
	last := prev.Index + uint64(len(list))
	if met == len(list) {
		return said(l), last, api.OK
	}
	var whole []api.Entry
	for i, e := range l.Entries {
		if l.Base.Index+1+uint64(i) < prev.Index+1+uint64(met) {
			whole = append(whole, e)
		}
	}
	end := l.Base.Term
	if len(whole) > 0 {
		end = whole[len(whole)-1].Term
	}
	switch {
	case !saidStand(end, list[met:]):
		return said(api.Log{}), 0, api.ErrArg
	case len(whole)+len(list)-met > 16:
		return said(api.Log{}), 0, api.ErrFull
	}
	return text(l.Base, append(whole, list[met:]...)), last, api.OK
}

// fewTerms is each list of three entries at most, with Terms from the least one to 3.
func fewTerms(least uint64) [][]api.Entry {
	out := [][]api.Entry{nil}
	for from, length := 0, 1; length <= 3; length++ {
		to := len(out)
		for _, ahead := range out[from:to] {
			for term := least; term <= 3; term++ {
				out = append(out, append(slices.Clone(ahead), entry(term)))
			}
		}
		from = to
	}
	return out
}

// someBases are at the beginning, amid, and at the last numbers that there are.
func someBases() []api.At {
	return []api.At{at(0, 0), at(1, 1), at(2, 1), at(2, 2), at(3, 3), at(top-4, 1), at(top-3, 2), at(top-2, 1), at(top-1, 1)}
}

// someLogs are logs that may be.
func someLogs() []api.Log {
	var out []api.Log
	for _, base := range someBases() {
		for _, list := range fewTerms(1) {
			if l := (api.Log{Base: base, Entries: list}); saidMayBe(l) {
				out = append(out, l)
			}
		}
	}
	return out
}

// named is a log, and what there is about it.
type named struct {
	name string
	log  api.Log
}

// justLogs are logs that just may be.
func justLogs() []named {
	return []named{
		{"nothing", api.Log{}},
		{"empty list", api.Log{Entries: []api.Entry{}}},
		{"one entry", behind(at(0, 0), 1)},
		{"least base", behind(at(1, 1))},
		{"least base, same Term", behind(at(1, 1), 1)},
		{"16 entries", api.Log{Entries: alike(16, 1)}},
		{"16 entries behind a base", api.Log{Base: at(9, 4), Entries: alike(16, 4)}},
		{"command of no bytes", api.Log{Entries: []api.Entry{{Term: 1, Kind: api.EntCommand}}}},
		{"command of 1024 bytes", api.Log{Entries: []api.Entry{sized(1, api.EntCommand, 1024)}}},
		{"conf of 1024 bytes", api.Log{Entries: []api.Entry{sized(1, api.EntConf, 1024)}}},
		{"none with an empty list", api.Log{Entries: []api.Entry{sized(1, api.EntNone, 0)}}},
		{"greatest base", behind(at(top-1, 1))},
		{"greatest base of one entry", behind(at(top-2, 1), 1)},
		{"greatest base of 16 entries", api.Log{Base: at(top-17, 1), Entries: alike(16, 1)}},
		{"greatest Terms", behind(at(1, top-1), top-1, top, top)},
		{"greatest Term of a base", behind(at(1, top), top)},
	}
}

// wrongLogs are logs that may not be.
func wrongLogs() []named {
	full := alike(16, 3)
	out := []named{
		{"Term 0", behind(at(0, 0), 0)},
		{"Term 0 of none", api.Log{Entries: []api.Entry{sized(0, api.EntNone, 0)}}},
		{"Term 0 of a conf", api.Log{Entries: []api.Entry{sized(0, api.EntConf, 1)}}},
		{"Term 0 behind a base", behind(at(1, 1), 0)},
		{"Term 0 amid", behind(at(0, 0), 1, 0, 1)},
		{"Term 0 at the end", behind(at(0, 0), 1, 2, 0)},
		{"Term below the one ahead", behind(at(0, 0), 2, 1)},
		{"Term below the one ahead, amid", behind(at(0, 0), 1, 3, 2, 3)},
		{"Term below Base's", behind(at(1, 2), 1)},
		{"Term below Base's, great", behind(at(1, top), top-1)},
		{"17 entries", api.Log{Entries: alike(17, 1)}},
		{"17 entries behind a base", api.Log{Base: at(9, 4), Entries: alike(17, 4)}},
		{"300 entries", api.Log{Entries: alike(300, 1)}},
		{"base without Index", behind(at(0, 1))},
		{"base without Index, with entries", behind(at(0, 1), 1)},
		{"base without Term", behind(at(1, 0))},
		{"base without Term, with entries", behind(at(1, 0), 1)},
		{"base at 2^64 - 1", behind(at(top, 1))},
		{"base at 2^64 - 1, one entry", behind(at(top, 1), 1)},
		{"base at 2^64 - 1, two entries", behind(at(top, 1), 1, 1)},
		{"end at 2^64 - 1", behind(at(top-1, 1), 1)},
		{"end at 2^64", behind(at(top-1, 1), 1, 1)},
		{"end at 2^64 - 1, 16 entries", api.Log{Base: at(top-16, 1), Entries: full}},
		{"end behind 2^64, 16 entries", api.Log{Base: at(top-9, 1), Entries: full}},
	}
	for _, kind := range []int{math.MinInt, -1, 0, 4, 255, 257, 258, 1<<32 + 2, math.MaxInt} {
		out = append(out, named{"Kind " + strconv.Itoa(kind), api.Log{Entries: []api.Entry{entry(1), {Term: 1, Kind: kind}}}})
	}
	for _, size := range []int{1, 1024, 1025} {
		out = append(out, named{"none of bytes: " + strconv.Itoa(size), api.Log{Entries: []api.Entry{sized(1, api.EntNone, size)}}})
	}
	for _, kind := range []int{api.EntCommand, api.EntConf} {
		for _, size := range []int{1025, 1 << 16} {
			list := []api.Entry{sized(1, kind, size)}
			out = append(out, named{"bytes: " + strconv.Itoa(size), api.Log{Entries: list}})
			out = append(out, named{"bytes behind others: " + strconv.Itoa(size), api.Log{Entries: append(entries(1, 1), list...)}})
		}
	}
	return out
}

// spotsOf asks the package for each spot, from Base to the end.
func spotsOf(l api.Log) []api.At {
	var out []api.At
	for index := l.Base.Index; ; index++ {
		term, there := log.Term(l, index)
		if !there {
			return out
		}
		out = append(out, at(index, term))
	}
}

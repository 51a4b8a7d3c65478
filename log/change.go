package log

import (
	"bytes"
	"slices"

	"tallyhouse/api"
)

// Extend: P6.3.
func Extend(l api.Log, entries []api.Entry) (api.Log, api.At, api.Errno) {
	own := log{l}
	why := api.ErrLog
	if !own.mayBe() {
		goto refused
	}
	own, why = own.extended(entries)
	if why != api.OK {
		goto refused
	}
	return own.clone(), own.last(), api.OK
refused:
	return api.Log{}, api.At{}, why
}

// Append: P6.3.
func Append(l api.Log, e api.Entry) (api.Log, api.At, api.Errno) {
	return Extend(l, []api.Entry{e})
}

// Cut: P6.3. As with From, the spot ahead of index is asked for.
func Cut(l api.Log, index uint64) (api.Log, api.Errno) {
	own := log{l}
	n, _, why := own.spot(index - 1)
	if why != api.OK {
		return api.Log{}, why
	}
	return own.cut(n).clone(), api.OK
}

// Compact: P6.3.
func Compact(l api.Log, index uint64) (api.Log, api.Errno) {
	own := log{l}
	n, at, why := own.spot(index)
	if why != api.OK {
		return api.Log{}, why
	}
	return api.Log{Base: at, Entries: cloned(own.behind(n, len(own.Entries)))}, api.OK
}

// Meet: P6.4.
func Meet(l api.Log, prev api.At, entries []api.Entry) (int, api.Errno) {
	return log{l}.meet(offer(prev, entries))
}

// Take: P6.4. What is met stays, and what stands behind it too: an offer that comes late takes nothing back.
func Take(l api.Log, prev api.At, entries []api.Entry) (api.Log, uint64, api.Errno) {
	own := log{l}
	met, why := own.meet(offer(prev, entries))
	if why != api.OK {
		goto refused
	}
	if met < len(entries) {
		ahead, _, _ := own.spot(prev.Index + uint64(met))
		own, why = own.cut(ahead).extended(entries[met:])
	}
	if why != api.OK {
		goto refused
	}
	return own.clone(), prev.Index + uint64(len(entries)), api.OK
refused:
	return api.Log{}, 0, why
}

// meet is how many of an offer's entries, from the first one on, the log meets.
func (l log) meet(other log) (int, api.Errno) {
	met, why := 0, api.ErrLog
	if !l.mayBe() {
		goto refused
	}
	why = api.ErrArg
	if !other.ends() || !mayStand(other.Base.Term, other.Entries) {
		goto refused
	}
	why = api.ErrNone
	if other.Base.Index >= l.Base.Index && !l.has(other.Base) {
		goto refused
	}
	for n, at := range other.spots() {
		if at.Index > l.Base.Index && !l.has(at) {
			break
		}
		met = n
	}
	return met, api.OK
refused:
	return 0, why
}

// extended is the log with entries behind all.
func (l log) extended(entries []api.Entry) (log, api.Errno) {
	long, why := l.cut(len(l.Entries)), api.ErrArg
	if !mayStand(l.last().Term, entries) {
		goto refused
	}
	long.Entries = append(long.Entries, entries...)
	why = api.ErrFull
	if !long.fits() {
		goto refused
	}
	return long, api.OK
refused:
	return log{}, why
}

// cut is the log with its first n entries alone: they have no room behind them, so that nothing is written there.
func (l log) cut(n int) log {
	return log{api.Log{Base: l.Base, Entries: l.Entries[:n:n]}}
}

// behind is the entries behind the first so many, n at most.
func (l log) behind(ahead, n int) []api.Entry {
	to := ahead + min(n, len(l.Entries)-ahead)
	return l.Entries[ahead:to:to]
}

func (l log) clone() api.Log {
	return api.Log{Base: l.Base, Entries: cloned(l.Entries)}
}

// cloned is entries that share nothing with these.
func cloned(entries []api.Entry) []api.Entry {
	out := slices.Clone(entries)
	for i := range out {
		out[i].Data = bytes.Clone(out[i].Data)
	}
	return out
}

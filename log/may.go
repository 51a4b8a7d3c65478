package log

import (
	"math"

	"tallyhouse/api"
)

// mostIndex leaves room for one Index more, so that the one behind an end is a number, too.
const mostIndex = math.MaxUint64 - 1

// mayBe tells whether it may be as a log.
func (l log) mayBe() bool {
	return l.fits() && (l.Base.Index == 0) == (l.Base.Term == 0) && mayStand(l.Base.Term, l.Entries)
}

// fits tells whether there are few enough entries, and numbers for all of them.
func (l log) fits() bool {
	return len(l.Entries) <= api.MaxLog && l.ends()
}

// ends tells whether its end's Index may be: where the numbers wrap round, it would be below Base's.
func (l log) ends() bool {
	end := l.Base.Index + uint64(len(l.Entries))
	return end >= l.Base.Index && end <= mostIndex
}

// mayStand tells whether entries may stand behind a Term.
func mayStand(term uint64, entries []api.Entry) bool {
	for _, e := range entries {
		if !entryMayBe(e) || e.Term < term {
			return false
		}
		term = e.Term
	}
	return true
}

func entryMayBe(e api.Entry) bool {
	switch e.Kind {
	case api.EntNone:
		return e.Term > 0 && len(e.Data) == 0
	case api.EntCommand, api.EntConf:
		return e.Term > 0 && len(e.Data) <= api.MaxData
	}
	return false
}

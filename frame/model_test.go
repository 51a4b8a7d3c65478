package frame_test

import (
	"bytes"
	"math"
	"slices"
	"strconv"
	"strings"

	"tallyhouse/api"
	"tallyhouse/blake"
)

const top = math.MaxUint64

// text says a message; nil and empty lists are one.
func text(m api.Msg) string {
	var b strings.Builder
	for _, x := range []int{m.Kind, m.From, m.To} {
		b.WriteString(strconv.Itoa(x) + " ")
	}
	for _, x := range []uint64{m.Term, m.Place.Index, m.Place.Term, m.Commit} {
		b.WriteString(strconv.FormatUint(x, 10) + " ")
	}
	b.WriteString(strconv.FormatBool(m.Ok) + " [")
	for _, e := range m.Entries {
		b.WriteString(strconv.FormatUint(e.Term, 10) + "/" + strconv.Itoa(e.Kind) + "/" + strconv.Quote(string(e.Data)) + " ")
	}
	b.WriteString("] [")
	for _, x := range m.Conf.Members {
		b.WriteString(strconv.Itoa(x) + " ")
	}
	b.WriteString("] " + strconv.Quote(string(m.Data)))
	return b.String()
}

// brief is the text's beginning, for a fault that is told.
func brief(m api.Msg) string {
	s := text(m)
	return s[:min(len(s), 200)]
}

// deep is a message that shares nothing with m.
func deep(m api.Msg) api.Msg {
	m.Entries = slices.Clone(m.Entries)
	for i := range m.Entries {
		m.Entries[i].Data = bytes.Clone(m.Entries[i].Data)
	}
	m.Conf.Members = slices.Clone(m.Conf.Members)
	m.Data = bytes.Clone(m.Data)
	return m
}

// mayBe is what the chapter's words say of messages, one behind the other.
func mayBe(m api.Msg) bool {
	zero := api.Msg{Kind: m.Kind, From: m.From, To: m.To, Term: m.Term}
	switch m.Kind {
	case 1:
		zero.Place = m.Place
	case 2:
		zero.Ok = m.Ok
	case 3:
		zero.Place, zero.Commit, zero.Entries = m.Place, m.Commit, m.Entries
	case 4:
		zero.Ok, zero.Place = m.Ok, m.Place
	case 5:
		zero.Place, zero.Conf, zero.Data = m.Place, m.Conf, m.Data
	default:
		return false
	}
	if text(zero) != text(m) {
		return false
	}
	if m.From == m.To || m.From < 1 || m.From > 5 || m.To < 1 || m.To > 5 {
		return false
	}
	if m.Term < 1 || m.Term > 1<<62 {
		return false
	}
	noPlace := m.Place.Index == 0 && m.Place.Term == 0
	bothAbove := m.Place.Index > 0 && m.Place.Term > 0
	if !noPlace && !bothAbove || m.Kind == 5 && !bothAbove || m.Place.Term > m.Term {
		return false
	}
	return modelEntries(m) && modelSnap(m)
}

func modelEntries(m api.Msg) bool {
	if len(m.Entries) > 8 || m.Place.Index > top-1-uint64(len(m.Entries)) {
		return false
	}
	ahead := m.Place.Term
	for _, e := range m.Entries {
		if e.Term < 1 || e.Term < ahead || e.Term > m.Term || e.Kind < 1 || e.Kind > 3 {
			return false
		}
		if len(e.Data) > 1024 || e.Kind == 1 && len(e.Data) > 0 {
			return false
		}
		ahead = e.Term
	}
	return true
}

func modelSnap(m api.Msg) bool {
	for _, x := range m.Conf.Members {
		if x < 1 || x > 255 {
			return false
		}
	}
	return len(m.Conf.Members) <= 5 && len(m.Data) <= 65536
}

// digits is a short number, from its last byte on.
func digits(x uint64) []byte {
	out := []byte{byte(x % 128)}
	for x /= 128; x > 0; x /= 128 {
		out = append(out, byte(x%128+128))
	}
	slices.Reverse(out)
	return out
}

// plain is the plain bytes of a message that may be, as the chapter says them, Kind by Kind.
func plain(m api.Msg) []byte {
	ok := map[bool]byte{true: 1}[m.Ok]
	place := slices.Concat(digits(m.Place.Index), digits(m.Place.Term))
	head := slices.Concat([]byte{byte(m.Kind), byte(16*m.From + m.To)}, digits(m.Term))
	switch m.Kind {
	case 1:
		return slices.Concat(head, place)
	case 2:
		return slices.Concat(head, []byte{ok})
	case 3:
		return slices.Concat(head, place, digits(m.Commit), plainEntries(m))
	case 4:
		return slices.Concat(head, []byte{ok}, place)
	}
	conf := digits(uint64(len(m.Conf.Members)))
	for _, x := range m.Conf.Members {
		conf = append(conf, byte(x))
	}
	return slices.Concat(head, place, conf, digits(uint64(len(m.Data))), m.Data)
}

func plainEntries(m api.Msg) []byte {
	out, ahead := digits(uint64(len(m.Entries))), m.Place.Term
	for _, e := range m.Entries {
		out = slices.Concat(out, digits(e.Term-ahead), []byte{byte(e.Kind)}, digits(uint64(len(e.Data))), e.Data)
		ahead = e.Term
	}
	return out
}

// sealed is bytes behind their seal.
func sealed(b []byte) []byte {
	id := blake.Sum(b)
	return slices.Concat(id[:16], b)
}

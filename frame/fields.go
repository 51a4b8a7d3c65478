package frame

import "tallyhouse/api"

// The fields that count in some Kinds alone, in the order in which their bytes stand.
const (
	fieldOk = iota
	fieldPlace
	fieldCommit
	fieldEntries
	fieldConf
	fieldData
	fieldsInAll
)

// fields is a set of them: the bit of a field's number is 1, if it is in the set.
type fields uint8

func (f fields) has(number int) bool {
	return f>>number&1 == 1
}

// counting is which fields count. No Kind goes without one, so an empty set tells that there is no such Kind.
func counting(kind int) fields {
	switch kind {
	case api.MsgVote:
		return 1 << fieldPlace
	case api.MsgVoted:
		return 1 << fieldOk
	case api.MsgAppend:
		return 1<<fieldPlace | 1<<fieldCommit | 1<<fieldEntries
	case api.MsgAppended:
		return 1<<fieldOk | 1<<fieldPlace
	case api.MsgSnap:
		return 1<<fieldPlace | 1<<fieldConf | 1<<fieldData
	}
	return 0
}

// filled is which fields are not zero.
func filled(m api.Msg) fields {
	set := fields(0)
	for number, is := range [fieldsInAll]bool{
		fieldOk:      m.Ok,
		fieldPlace:   m.Place != api.At{},
		fieldCommit:  m.Commit > 0,
		fieldEntries: len(m.Entries) > 0,
		fieldConf:    len(m.Conf.Members) > 0,
		fieldData:    len(m.Data) > 0,
	} {
		if is {
			set |= 1 << number
		}
	}
	return set
}

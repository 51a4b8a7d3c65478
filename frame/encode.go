package frame

import (
	"slices"

	"tallyhouse/api"
	"tallyhouse/blake"
)

// putter adds a field's bytes to b, which is to be the package's own.
type putter func(b []byte, m api.Msg) []byte

// Encode: P7.2.
func Encode(m api.Msg) ([]byte, api.Errno) {
	if err := Check(m); err != api.OK {
		return nil, err
	}
	plain := plainBytes(m)
	return slices.Concat(seal(plain), plain), api.OK
}

func seal(plain []byte) []byte {
	id := blake.Sum(plain)
	return id[:api.Seal]
}

func plainBytes(m api.Msg) []byte {
	b := putShort([]byte{byte(m.Kind), byte(m.From<<4 | m.To)}, m.Term)
	set := counting(m.Kind)
	for number, put := range putters() {
		if set.has(number) {
			b = put(b, m)
		}
	}
	return b
}

// putters are found by the numbers of their fields.
func putters() [fieldsInAll]putter {
	return [...]putter{
		fieldOk:      putOk,
		fieldPlace:   putPlace,
		fieldCommit:  func(b []byte, m api.Msg) []byte { return putShort(b, m.Commit) },
		fieldEntries: putEntries,
		fieldConf:    func(b []byte, m api.Msg) []byte { return putList(b, m.Conf.Members, putMember) },
		fieldData:    func(b []byte, m api.Msg) []byte { return putList(b, m.Data, putByte) },
	}
}

func putOk(b []byte, m api.Msg) []byte {
	if m.Ok {
		return append(b, 1)
	}
	return append(b, 0)
}

func putPlace(b []byte, m api.Msg) []byte {
	return putShort(putShort(b, m.Place.Index), m.Place.Term)
}

// putEntries says Terms by how much they rise, which is seldom more than a byte holds.
func putEntries(b []byte, m api.Msg) []byte {
	ahead := m.Place.Term
	return putList(b, m.Entries, func(b []byte, e api.Entry) []byte {
		b = putShort(b, e.Term-ahead)
		ahead = e.Term
		return putList(append(b, byte(e.Kind)), e.Data, putByte)
	})
}

func putMember(b []byte, member int) []byte {
	return append(b, byte(member))
}

func putByte(b []byte, c byte) []byte {
	return append(b, c)
}

// putList adds how many items there are, and each one.
func putList[T any](b []byte, items []T, put func(b []byte, item T) []byte) []byte {
	b = putShort(b, uint64(len(items)))
	for i := range len(items) {
		b = put(b, items[i])
	}
	return b
}

package frame_test

import (
	"bytes"
	"slices"
	"testing"

	"tallyhouse/api"
	"tallyhouse/frame"
)

// room is bytes with room behind them, in which something stands.
func room(b []byte) []byte {
	whole := append(slices.Grow(bytes.Clone(b), 40), "what stands behind"...)
	return whole[:len(b)]
}

// roomy is a message each list of which has room behind it, in which something stands.
func roomy(m api.Msg) api.Msg {
	m = deep(m)
	for i := range m.Entries {
		m.Entries[i].Data = room(m.Entries[i].Data)
	}
	m.Entries = append(slices.Clip(m.Entries), nones(91, 92, 93)...)[:len(m.Entries)]
	m.Conf.Members = append(slices.Clip(m.Conf.Members), 94, 95, 96)[:len(m.Conf.Members)]
	m.Data = room(m.Data)
	return m
}

// reached is a message with all that stands in its lists' room.
func reached(m api.Msg) api.Msg {
	m.Entries = slices.Clone(m.Entries[:cap(m.Entries)])
	for i := range m.Entries {
		m.Entries[i].Data = m.Entries[i].Data[:cap(m.Entries[i].Data)]
	}
	m.Conf.Members = m.Conf.Members[:cap(m.Conf.Members)]
	m.Data = m.Data[:cap(m.Data)]
	return m
}

// spoil writes over a message's lists, all their room included.
func spoil(m api.Msg) {
	m.Entries = m.Entries[:cap(m.Entries)]
	for i := range m.Entries {
		spoilBytes(m.Entries[i].Data)
		m.Entries[i] = api.Entry{Term: 77, Kind: 78}
	}
	for i := range m.Conf.Members[:cap(m.Conf.Members)] {
		m.Conf.Members[:cap(m.Conf.Members)][i] = 79
	}
	spoilBytes(m.Data)
}

func spoilBytes(b []byte) {
	b = b[:cap(b)]
	for i := range b {
		b[i] ^= 0xEE
	}
}

// R3: Check, Same and Encode change nothing of a message, and Encode keeps nothing.
func TestMemoryOfMessages(t *testing.T) {
	for _, q := range append(right(), wrong()...) {
		m := roomy(q.msg)
		was := text(reached(m))
		frame.Check(m)
		frame.Same(m, roomy(q.msg))
		b, err := frame.Encode(m)
		if text(reached(m)) != was {
			t.Errorf("%s was changed", q.name)
		}
		answered := bytes.Clone(b)
		spoil(m)
		if !bytes.Equal(b, answered) {
			t.Errorf("Encode kept %s", q.name)
		}
		if err != api.OK {
			continue
		}
		m = roomy(q.msg)
		b, _ = frame.Encode(m)
		spoilBytes(b)
		if text(reached(m)) != was {
			t.Errorf("Encode answered %s", q.name)
		}
	}
}

// R3: Decode changes and keeps nothing of its bytes, and no two lists of its answer share anything.
func TestMemoryOfBytes(t *testing.T) {
	for _, q := range right() {
		b := room(sealed(plain(q.msg)))
		was := bytes.Clone(b[:cap(b)])
		m, _ := frame.Decode(b)
		if !bytes.Equal(b[:cap(b)], was) {
			t.Errorf("Decode changed the bytes of %s", q.name)
		}
		spoilBytes(b)
		if text(m) != text(q.msg) {
			t.Errorf("Decode kept the bytes of %s", q.name)
		}
		b = room(sealed(plain(q.msg)))
		m, _ = frame.Decode(b)
		spoil(m)
		if !bytes.Equal(b[:cap(b)], was) {
			t.Errorf("Decode answered the bytes of %s", q.name)
		}
	}
}

// R3: no two lists of an answer share anything, also where both say the same.
func TestMemoryIsNotShared(t *testing.T) {
	same := api.Msg{Kind: api.MsgAppend, From: 1, To: 2, Term: 1, Entries: []api.Entry{command(1, "both"), command(1, "both"), command(1, "")}}
	for i := range same.Entries {
		m, _ := frame.Decode(sealed(plain(same)))
		m.Entries[i].Data = append(m.Entries[i].Data, "behind"...)
		spoilBytes(m.Entries[i].Data)
		for j := range same.Entries {
			if i != j && !bytes.Equal(m.Entries[j].Data, same.Entries[j].Data) {
				t.Errorf("entries %d and %d share their Data", i, j)
			}
		}
	}
	snap := api.Msg{Kind: api.MsgSnap, From: 1, To: 2, Term: 1, Place: at(1, 1), Conf: conf(1), Data: []byte("s")}
	one, _ := frame.Decode(sealed(plain(snap)))
	two, _ := frame.Decode(sealed(plain(snap)))
	spoil(one)
	if text(two) != text(snap) {
		t.Error("two answers share their lists")
	}
}

// R3: Short's bytes are its own, and Long leaves those that it was given.
func TestMemoryOfNumbers(t *testing.T) {
	for x, want := range shorts() {
		spoilBytes(frame.Short(x))
		if b := frame.Short(x); !bytes.Equal(b, want) {
			t.Errorf("Short(%d), again: %x", x, b)
		}
		b := room(want)
		was := bytes.Clone(b[:cap(b)])
		frame.Long(b)
		if !bytes.Equal(b[:cap(b)], was) {
			t.Errorf("Long changed %x", want)
		}
	}
}

// R5: what a call answers hangs on nothing that was asked ahead of it.
func TestAnswersAreTheSameAgain(t *testing.T) {
	for _, q := range right() {
		first, _ := frame.Encode(q.msg)
		frame.Decode(sealed([]byte("\x05\x12\x09\x05\x05\x01\x02\x02a")))
		frame.Encode(wrong()[0].msg)
		again, _ := frame.Encode(q.msg)
		m, err := frame.Decode(first)
		if !bytes.Equal(first, again) || err != api.OK || !frame.Same(m, q.msg) {
			t.Errorf("%s: another answer", q.name)
		}
	}
}

package frame_test

import (
	"testing"

	"tallyhouse/api"
	"tallyhouse/frame"
)

// P7.1: a message that may be is OK.
func TestCheckTakesWhatJustMayBe(t *testing.T) {
	for _, q := range right() {
		if err := frame.Check(q.msg); err != api.OK {
			t.Errorf("%s: %d", q.name, err)
		}
	}
}

// P7.1: From and To are any two servers.
func TestCheckTakesAnyTwoServers(t *testing.T) {
	for from := -2; from < 20; from++ {
		for to := -2; to < 20; to++ {
			want := api.ErrMsg
			if from >= 1 && from <= 5 && to >= 1 && to <= 5 && from != to {
				want = api.OK
			}
			for _, o := range ordinary() {
				m := o.msg
				m.From, m.To = from, to
				if err := frame.Check(m); err != want {
					t.Errorf("%s from %d to %d: %d", o.name, from, to, err)
				}
			}
		}
	}
}

// P7.1: a message that may not be is ErrMsg, to Encode too (P7.2).
func TestWrongMessages(t *testing.T) {
	for _, q := range wrong() {
		if err := frame.Check(q.msg); err != api.ErrMsg {
			t.Errorf("Check of %s: %d", q.name, err)
		}
		if b, err := frame.Encode(q.msg); err != api.ErrMsg || len(b) > 0 {
			t.Errorf("Encode of %s: %d bytes, %d", q.name, len(b), err)
		}
		if mayBe(q.msg) {
			t.Errorf("the model takes %s", q.name)
		}
	}
}

// changes are what may be done to a message's fields, by the fields' names.
func changes() map[string][]func(m *api.Msg) {
	out := map[string][]func(m *api.Msg){}
	add := func(name string, do func(m *api.Msg)) { out[name] = append(out[name], do) }
	for kind := -1; kind <= 6; kind++ {
		add("Kind", func(m *api.Msg) { m.Kind = kind })
	}
	for _, who := range []int{-1, 0, 1, 2, 5, 6, 17} {
		add("From", func(m *api.Msg) { m.From = who })
		add("To", func(m *api.Msg) { m.To = who })
	}
	for _, term := range []uint64{0, 1, 5, 7, api.MaxTerm, api.MaxTerm + 1, top} {
		add("Term", func(m *api.Msg) { m.Term = term })
	}
	for _, place := range []api.At{{}, at(1, 0), at(0, 1), at(1, 1), at(9, 7), at(3, 8), at(top-9, 1), at(top-8, 1), at(top-1, 2), at(top, 2), at(5, api.MaxTerm), at(top, top)} {
		add("Place", func(m *api.Msg) { m.Place = place })
	}
	for _, list := range [][]api.Entry{nil, {}, {{}}, nones(1), nones(7), nones(1, 2), nones(2, 1), nones(1, 1, 1, 1, 1, 1, 1, 7), nones(1, 1, 1, 1, 1, 1, 1, 1, 1), {command(1, "a"), change(7, "b")}, {{Term: 1, Kind: 4}}, {{Term: 1, Kind: 1, Data: []byte{0}}}, nones(top), nones(1, api.MaxTerm)} {
		add("Entries", func(m *api.Msg) { m.Entries = list })
	}
	for _, index := range []uint64{0, 1, 127, 128, top} {
		add("Commit", func(m *api.Msg) { m.Commit = index })
	}
	for _, ok := range []bool{false, true} {
		add("Ok", func(m *api.Msg) { m.Ok = ok })
	}
	for _, c := range []api.Conf{{}, conf(0), conf(1), conf(255), conf(256), conf(1, 1), conf(2, 1), conf(5, 5, 5, 5, 5), conf(1, 2, 3, 4, 5, 6), conf(-255)} {
		add("Conf", func(m *api.Msg) { m.Conf = c })
	}
	for _, b := range [][]byte{nil, {}, {0}, []byte("abc"), bytesOf(200)} {
		add("Data", func(m *api.Msg) { m.Data = b })
	}
	return out
}

// P7.1, P7.2: whatever two fields are changed, Check and Encode do what the chapter's words say.
func TestCheckAndEncodeAsTheModel(t *testing.T) {
	may, all := 0, changes()
	for _, o := range ordinary() {
		for one, firsts := range all {
			for two, seconds := range all {
				if two < one {
					continue
				}
				for _, first := range firsts {
					for _, second := range seconds {
						m := o.msg
						first(&m)
						second(&m)
						may += asModel(t, m)
					}
				}
			}
		}
	}
	if may < 1000 {
		t.Errorf("only %d messages may be", may)
	}
}

// asModel is 1, if the message may be.
func asModel(t *testing.T, m api.Msg) int {
	t.Helper()
	err := frame.Check(m)
	b, failed := frame.Encode(m)
	if !mayBe(m) {
		if err != api.ErrMsg || failed != api.ErrMsg || len(b) > 0 {
			t.Errorf("%s: %d, %d", brief(m), err, failed)
		}
		return 0
	}
	if err != api.OK || failed != api.OK || string(b) != string(sealed(plain(m))) {
		t.Errorf("%s: %d, %d, %x", brief(m), err, failed, b)
	}
	return 1
}

// P7.1: of whatever messages, those that may not be too.
func TestSame(t *testing.T) {
	list := append(right(), wrong()...)
	for _, a := range list {
		if !frame.Same(a.msg, deep(a.msg)) {
			t.Errorf("%s is not the same as itself", a.name)
		}
		for _, b := range list {
			if frame.Same(a.msg, b.msg) != (text(a.msg) == text(b.msg)) {
				t.Errorf("%s, %s", a.name, b.name)
			}
		}
	}
}

// P7.1: each field alone makes two messages unlike, and each one's part.
func TestSameGoesFieldByField(t *testing.T) {
	full := api.Msg{Kind: 9, From: 8, To: 7, Term: 6, Place: at(5, 4), Commit: 3, Ok: true, Conf: conf(2, 300), Data: []byte("ab"),
		Entries: []api.Entry{command(9, "x"), {Term: 1, Kind: 77, Data: []byte("yz")}}}
	for name, do := range map[string]func(m *api.Msg){
		"Kind":                  func(m *api.Msg) { m.Kind = -9 },
		"From":                  func(m *api.Msg) { m.From++ },
		"To":                    func(m *api.Msg) { m.To++ },
		"Term":                  func(m *api.Msg) { m.Term += 1 << 63 },
		"Place.Index":           func(m *api.Msg) { m.Place.Index++ },
		"Place.Term":            func(m *api.Msg) { m.Place.Term++ },
		"Commit":                func(m *api.Msg) { m.Commit++ },
		"Ok":                    func(m *api.Msg) { m.Ok = false },
		"Conf":                  func(m *api.Msg) { m.Conf.Members[1]++ },
		"Conf, its order":       func(m *api.Msg) { m.Conf = conf(300, 2) },
		"Conf, shorter":         func(m *api.Msg) { m.Conf = conf(2) },
		"Conf, longer":          func(m *api.Msg) { m.Conf = conf(2, 300, 0) },
		"no Conf":               func(m *api.Msg) { m.Conf = api.Conf{} },
		"Data":                  func(m *api.Msg) { m.Data[1] = 'c' },
		"Data, shorter":         func(m *api.Msg) { m.Data = m.Data[:1] },
		"Data, longer":          func(m *api.Msg) { m.Data = append(m.Data, 0) },
		"no Data":               func(m *api.Msg) { m.Data = nil },
		"Entries, shorter":      func(m *api.Msg) { m.Entries = m.Entries[:1] },
		"Entries, longer":       func(m *api.Msg) { m.Entries = append(m.Entries, api.Entry{}) },
		"no Entries":            func(m *api.Msg) { m.Entries = nil },
		"Entries, their order":  func(m *api.Msg) { m.Entries[0], m.Entries[1] = m.Entries[1], m.Entries[0] },
		"an entry's Term":       func(m *api.Msg) { m.Entries[1].Term++ },
		"an entry's Kind":       func(m *api.Msg) { m.Entries[1].Kind++ },
		"an entry's Data":       func(m *api.Msg) { m.Entries[1].Data[0]++ },
		"an entry without Data": func(m *api.Msg) { m.Entries[1].Data = nil },
	} {
		m := deep(full)
		do(&m)
		if frame.Same(m, full) || frame.Same(full, m) {
			t.Errorf("%s: %s", name, text(m))
		}
	}
}

// R3: nil and empty lists are one.
func TestSameOfNoLists(t *testing.T) {
	m := api.Msg{Kind: api.MsgAppend, From: 1, To: 2, Term: 1, Entries: []api.Entry{}, Conf: conf([]int{}...), Data: []byte{}}
	if !frame.Same(m, api.Msg{Kind: api.MsgAppend, From: 1, To: 2, Term: 1}) {
		t.Error("empty lists are not the same as none")
	}
	m.Entries = []api.Entry{{Data: []byte{}}}
	if !frame.Same(m, api.Msg{Kind: api.MsgAppend, From: 1, To: 2, Term: 1, Entries: []api.Entry{{}}}) {
		t.Error("an entry's empty Data is not the same as none")
	}
}

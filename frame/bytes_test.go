package frame_test

import (
	"bytes"
	"slices"
	"strings"
	"testing"

	"tallyhouse/api"
	"tallyhouse/blake"
	"tallyhouse/frame"
)

// written are messages, and their plain bytes as they are to be.
func written() map[string]api.Msg {
	return map[string]api.Msg{
		"\x02\x12\x03\x01": {Kind: api.MsgVoted, From: 1, To: 2, Term: 3, Ok: true},
		"\x03\x12\x82\x2c\x00\x00\x05\x01\x82\x2c\x01\x00": {Kind: api.MsgAppend, From: 1, To: 2, Term: 300, Commit: 5, Entries: nones(300)},
		"\x01\x51\x07\x81\x00\x06":                         {Kind: api.MsgVote, From: 5, To: 1, Term: 7, Place: at(128, 6)},
		"\x01\x45\x01\x00\x00":                             {Kind: api.MsgVote, From: 4, To: 5, Term: 1},
		"\x02\x15\xff\x7f\x00":                             {Kind: api.MsgVoted, From: 1, To: 5, Term: 1<<14 - 1},
		"\x04\x34\x09\x01\x02\x08":                         {Kind: api.MsgAppended, From: 3, To: 4, Term: 9, Ok: true, Place: at(2, 8)},
		"\x04\x34\x09\x00\x00\x00":                         {Kind: api.MsgAppended, From: 3, To: 4, Term: 9},
		"\x05\x21\x08\x09\x07\x03\x01\xff\x02\x02ab":       {Kind: api.MsgSnap, From: 2, To: 1, Term: 8, Place: at(9, 7), Conf: conf(1, 255, 2), Data: []byte("ab")},
		"\x05\x21\x08\x09\x07\x00\x00":                     {Kind: api.MsgSnap, From: 2, To: 1, Term: 8, Place: at(9, 7)},
		"\x03\x32\x87\x68\x09\x06\x81\x00\x03\x00\x02\x01x\x01\x03\x02yz\x87\x61\x01\x00": {Kind: api.MsgAppend, From: 3, To: 2, Term: 1000, Place: at(9, 6), Commit: 128, Entries: []api.Entry{command(6, "x"), change(7, "yz"), none(1000)}},
		"\x03\x32\x04\x09\x04\x09\x00": {Kind: api.MsgAppend, From: 3, To: 2, Term: 4, Place: at(9, 4), Commit: 9},
	}
}

// P7.2: the chapter's examples among others, byte by byte.
func TestEncodeAndDecodeAsWritten(t *testing.T) {
	for b, m := range written() {
		if got, err := frame.Encode(m); err != api.OK || string(got) != string(sealed([]byte(b))) {
			t.Errorf("Encode(%s): %x %d", text(m), got, err)
		}
		if got, err := frame.Decode(sealed([]byte(b))); err != api.OK || text(got) != text(m) {
			t.Errorf("Decode of %x: %s %d", b, text(got), err)
		}
	}
	if err := frame.Check(api.Msg{Kind: api.MsgVote, From: 3, To: 3, Term: 1}); err != api.ErrMsg {
		t.Errorf("to itself: %d", err)
	}
	if _, err := frame.Decode(make([]byte, 15)); err != api.ErrShort {
		t.Errorf("15 bytes: %d", err)
	}
	if _, err := frame.Decode(make([]byte, 32)); err != api.ErrFrame {
		t.Errorf("32 noughts: %d", err)
	}
}

// P7.2, P7.4: each message's bytes are those that the words say, and say it.
func TestEncodeAndDecode(t *testing.T) {
	for _, q := range right() {
		b, err := frame.Encode(q.msg)
		if err != api.OK || !bytes.Equal(b, sealed(plain(q.msg))) {
			t.Errorf("Encode of %s: %d", q.name, err)
		}
		m, err := frame.Decode(b)
		if err != api.OK || text(m) != text(q.msg) || !frame.Same(m, q.msg) {
			t.Errorf("Decode of %s: %s %d", q.name, brief(m), err)
		}
		if again, err := frame.Encode(m); err != api.OK || !bytes.Equal(again, b) {
			t.Errorf("Encode of Decode of %s: %d", q.name, err)
		}
	}
}

// P7.4: unlike messages have unlike plain bytes.
func TestUnlikeMessages(t *testing.T) {
	was := map[string]string{}
	for _, q := range right() {
		for _, place := range []api.At{q.msg.Place, at(1, 1), at(2, 1), at(128, 1)} {
			for _, who := range [][2]int{{1, 2}, {2, 1}, {5, 3}} {
				m := q.msg
				m.Place, m.From, m.To = place, who[0], who[1]
				b, err := frame.Encode(m)
				if err != api.OK {
					continue
				}
				if other, there := was[string(b[api.Seal:])]; there && other != text(m) {
					t.Errorf("%s: as another one", brief(m))
				}
				was[string(b[api.Seal:])] = text(m)
			}
		}
	}
	if len(was) < 100 {
		t.Errorf("only %d messages", len(was))
	}
}

// P7.2: fewer bytes than a seal has, whatever they are.
func TestDecodeOfShortBytes(t *testing.T) {
	whole, _ := frame.Encode(ordinary()[0].msg)
	for n := range api.Seal {
		for _, b := range [][]byte{whole[:n], make([]byte, n), bytes.Repeat([]byte{0xFF}, n)} {
			refused(t, "too short", b, api.ErrShort)
		}
	}
	refused(t, "nil", nil, api.ErrShort)
}

// refused fails the test, if bytes are decoded, or refused otherwise.
func refused(t *testing.T, name string, b []byte, want api.Errno) {
	t.Helper()
	if m, err := frame.Decode(b); err != want || text(m) != text(api.Msg{}) {
		t.Errorf("%s: Decode(%x): %s %d", name, b[:min(len(b), 60)], brief(m), err)
	}
}

// P7.4: with one bit of its seal turned it is none; P7.2: nor with one of its plain bytes turned, under the seal that it had.
func TestDecodeWithABitTurned(t *testing.T) {
	for _, q := range ordinary() {
		b, _ := frame.Encode(q.msg)
		for i := range 8 * len(b) {
			turned := bytes.Clone(b)
			turned[i/8] ^= 1 << (i % 8)
			refused(t, q.name, turned, api.ErrFrame)
		}
		for n := api.Seal; n < len(b); n++ {
			refused(t, q.name, b[:n], api.ErrFrame)
		}
		refused(t, q.name, append(bytes.Clone(b), 0), api.ErrFrame)
		refused(t, q.name, b[api.Seal:], map[bool]api.Errno{true: api.ErrShort, false: api.ErrFrame}[len(b) < 2*api.Seal])
	}
}

// P7.2: the seal is of all the plain bytes, and the first part of the digest.
func TestWrongSeals(t *testing.T) {
	b := []byte("\x02\x12\x03\x01")
	id, less, none := blake.Sum(b), blake.Sum(b[:3]), blake.Sum(nil)
	for name, seal := range map[string][]byte{"the last bytes": id[16:], "of fewer bytes": less[:16], "of no bytes": none[:16], "a whole digest": id[:], "noughts": make([]byte, 16)} {
		refused(t, name, slices.Concat(seal, b), api.ErrFrame)
	}
	if _, err := frame.Decode(slices.Concat(id[:16], b)); err != api.OK {
		t.Errorf("the first bytes: %d", err)
	}
}

// P7.2: a right seal in front of plain bytes that end too early, or go on.
func TestDecodeOfTooFewAndTooMany(t *testing.T) {
	for _, q := range right() {
		b := plain(q.msg)
		for n := 0; n < len(b); n += 1 + len(b)/100 {
			refused(t, q.name, sealed(b[:n]), api.ErrFrame)
		}
		refused(t, q.name, sealed(b[:len(b)-1]), api.ErrFrame)
		for c := range 256 {
			if len(b) < 100 || c < 3 {
				refused(t, q.name, sealed(append(bytes.Clone(b), byte(c))), api.ErrFrame)
			}
		}
	}
}

// P7.2: a right seal in front of what are no plain bytes of a message that may be. Each stands beside what is right, so that no other reason is left.
func TestDecodeOfWrongPlainBytes(t *testing.T) {
	over := "\x82\x80\x80\x80\x80\x80\x80\x80\x80\x00"
	most := "\x81\xff\xff\xff\xff\xff\xff\xff\xff\x7f"
	const vote, voted, send, snap = "\x01\x12\x09\x05\x05", "\x02\x12\x03\x01", "\x03\x12\x09\x05\x05\x04\x01\x02\x02\x01a", "\x05\x12\x09\x05\x05\x01\x02\x01a"
	for name, q := range map[string][2]string{
		"Kind 0":                          {voted, "\x00\x12\x03\x01"},
		"Kind 0, a head alone":            {voted, "\x00\x12\x03"},
		"Kind 6":                          {voted, "\x06\x12\x03\x01"},
		"Kind 6, a head alone":            {voted, "\x06\x12\x03"},
		"Kind 130":                        {voted, "\x82\x12\x03\x01"},
		"From 0":                          {voted, "\x02\x02\x03\x01"},
		"From 6":                          {voted, "\x02\x62\x03\x01"},
		"To 0":                            {voted, "\x02\x10\x03\x01"},
		"To 6":                            {voted, "\x02\x16\x03\x01"},
		"To itself":                       {voted, "\x02\x11\x03\x01"},
		"Term 0":                          {voted, "\x02\x12\x00\x01"},
		"MaxTerm + 1":                     {voted, "\x02\x12\xc0\x80\x80\x80\x80\x80\x80\x80\x01\x01"},
		"a Term of 2^64 - 1":              {voted, "\x02\x12" + most + "\x01"},
		"a Term of 2^64 + 3":              {voted, "\x02\x12" + over[:9] + "\x03\x01"},
		"a Term with a byte more":         {voted, "\x02\x12\x80\x03\x01"},
		"Ok 2":                            {voted, "\x02\x12\x03\x02"},
		"Ok 128":                          {voted, "\x02\x12\x03\x80"},
		"Ok 255":                          {voted, "\x02\x12\x03\xff"},
		"an appended Ok 2":                {"\x04\x12\x03\x01\x01\x01", "\x04\x12\x03\x02\x01\x01"},
		"Place before Ok":                 {"\x04\x12\x09\x01\x05\x05", "\x04\x12\x09\x05\x05\x01"},
		"an Index with a byte more":       {vote, "\x01\x12\x09\x80\x05\x05"},
		"a place's Term with a byte more": {vote, "\x01\x12\x09\x05\x80\x05"},
		"an Index alone":                  {vote, "\x01\x12\x09\x05\x00"},
		"a place's Term alone":            {vote, "\x01\x12\x09\x00\x05"},
		"a place's Term above":            {vote, "\x01\x12\x09\x05\x0a"},
		"an Index of 2^64 - 1":            {vote, "\x01\x12\x09" + most + "\x05"},
		"an Index of 2^64 and more":       {vote, "\x01\x12\x09" + over + "\x05"},
		"a Commit with a byte more":       {send, "\x03\x12\x09\x05\x05\x80\x04\x01\x02\x02\x01a"},
		"a Commit of 2^64 and more":       {send, "\x03\x12\x09\x05\x05" + over + "\x01\x02\x02\x01a"},
		"a count with a byte more":        {send, "\x03\x12\x09\x05\x05\x04\x80\x01\x02\x02\x01a"},
		"a count that is too great":       {send, "\x03\x12\x09\x05\x05\x04\x02\x02\x02\x01a"},
		"a count that is too small":       {send, "\x03\x12\x09\x05\x05\x04\x00\x02\x02\x01a"},
		"a count of 2^64 - 1":             {send, "\x03\x12\x09\x05\x05\x04" + most + "\x02\x02\x01a"},
		"a count of 2^64 - 1, no more":    {send, "\x03\x12\x09\x05\x05\x04" + most},
		"a count of 2^63":                 {send, "\x03\x12\x09\x05\x05\x04\x81" + over[1:]},
		"a rise with a byte more":         {send, "\x03\x12\x09\x05\x05\x04\x01\x80\x02\x02\x01a"},
		"a rise above the Term":           {send, "\x03\x12\x09\x05\x05\x04\x01\x05\x02\x01a"},
		"a rise that goes round to 4":     {send, "\x03\x12\x09\x05\x05\x04\x01" + most + "\x02\x01a"},
		"a rise that goes round to 0":     {send, "\x03\x12\x09\x05\x05\x04\x01" + most[:9] + "\x7b\x02\x01a"},
		"a rise of 2^64 and more":         {send, "\x03\x12\x09\x05\x05\x04\x01" + over[:9] + "\x02\x02\x01a"},
		"a rise from no place to 0":       {"\x03\x12\x09\x00\x00\x04\x01\x01\x02\x01a", "\x03\x12\x09\x00\x00\x04\x01\x00\x02\x01a"},
		"an entry of the Kind 0":          {send, "\x03\x12\x09\x05\x05\x04\x01\x02\x00\x01a"},
		"an entry of the Kind 4":          {send, "\x03\x12\x09\x05\x05\x04\x01\x02\x04\x01a"},
		"an EntNone with Data":            {send, "\x03\x12\x09\x05\x05\x04\x01\x02\x01\x01a"},
		"a size with a byte more":         {send, "\x03\x12\x09\x05\x05\x04\x01\x02\x02\x80\x01a"},
		"a size that is too great":        {send, "\x03\x12\x09\x05\x05\x04\x01\x02\x02\x02a"},
		"a size that is too small":        {send, "\x03\x12\x09\x05\x05\x04\x01\x02\x02\x00a"},
		"a size of 2^64 - 1":              {send, "\x03\x12\x09\x05\x05\x04\x01\x02\x02" + most},
		"a size of 2^63":                  {send, "\x03\x12\x09\x05\x05\x04\x01\x02\x02\x81" + over[1:] + "a"},
		"a size of 2^64 + 1":              {send, "\x03\x12\x09\x05\x05\x04\x01\x02\x02" + over[:9] + "\x01a"},
		"an end at 2^64 - 1":              {"\x03\x12\x09" + most[:9] + "\x7d\x05\x04\x01\x02\x02\x01a", "\x03\x12\x09" + most[:9] + "\x7e\x05\x04\x01\x02\x02\x01a"},
		"a snapshot without a place":      {snap, "\x05\x12\x09\x00\x00\x01\x02\x01a"},
		"a member 0":                      {snap, "\x05\x12\x09\x05\x05\x01\x00\x01a"},
		"members with a byte more":        {snap, "\x05\x12\x09\x05\x05\x80\x01\x02\x01a"},
		"6 members":                       {snap, "\x05\x12\x09\x05\x05\x06\x01\x02\x03\x04\x05\x06\x01a"},
		"too many members":                {snap, "\x05\x12\x09\x05\x05\x02\x02\x01a"},
		"too few members":                 {"\x05\x12\x09\x05\x05\x01\x05\x01a", "\x05\x12\x09\x05\x05\x00\x05\x01a"},
		"2^64 - 1 members":                {snap, "\x05\x12\x09\x05\x05" + most + "\x02\x01a"},
		"2^64 and more members":           {snap, "\x05\x12\x09\x05\x05" + over[:9] + "\x01\x02\x01a"},
		"a snapshot with a byte more":     {snap, "\x05\x12\x09\x05\x05\x01\x02\x80\x01a"},
		"a snapshot that is too short":    {snap, "\x05\x12\x09\x05\x05\x01\x02\x02a"},
		"a snapshot that is too long":     {snap, "\x05\x12\x09\x05\x05\x01\x02\x00a"},
		"a snapshot of 2^64 - 1 bytes":    {snap, "\x05\x12\x09\x05\x05\x01\x02" + most + "a"},
		"a snapshot of 2^64 + 1 bytes":    {snap, "\x05\x12\x09\x05\x05\x01\x02" + over[:9] + "\x01a"},
		"Data before Conf":                {"\x05\x12\x09\x05\x05\x01\x09\x06abcdef", "\x05\x12\x09\x05\x05\x06abcdef\x01\x09"},
	} {
		if _, err := frame.Decode(sealed([]byte(q[0]))); err != api.OK {
			t.Errorf("%s: %x is refused: %d", name, q[0], err)
		}
		refused(t, name, sealed([]byte(q[1])), api.ErrFrame)
	}
	refused(t, "no plain bytes", sealed(nil), api.ErrFrame)
}

// P7.2, R1: a count that nothing stands behind is refused, not worked off, however great it is.
func TestDecodeOfGreatCounts(t *testing.T) {
	for shift := 4; shift < 64; shift++ {
		for _, n := range []uint64{1<<shift - 1, 1 << shift, 1<<shift + 1, top >> (63 - shift)} {
			for _, front := range []string{"\x03\x12\x09\x05\x05\x04", "\x03\x12\x09\x05\x05\x04\x01\x00\x02", "\x05\x12\x09\x05\x05", "\x05\x12\x09\x05\x05\x00"} {
				refused(t, "a count alone", sealed(append([]byte(front), digits(n)...)), api.ErrFrame)
				refused(t, "a count, and noughts", sealed(slices.Concat([]byte(front), digits(n), make([]byte, 14))), api.ErrFrame)
			}
		}
	}
}

// P7.2: lists that are whole, and longer than may be.
func TestDecodeOfLongLists(t *testing.T) {
	entry := "\x00\x02\x00"
	data := func(n int) string { return string(digits(uint64(n))) + string(bytesOf(n)) }
	for name, q := range map[string][2]string{
		"9 Entries":                 {"\x03\x12\x09\x05\x05\x04\x08" + strings.Repeat(entry, 8), "\x03\x12\x09\x05\x05\x04\x09" + strings.Repeat(entry, 9)},
		"300 Entries":               {"\x03\x12\x09\x05\x05\x04\x08" + strings.Repeat(entry, 8), "\x03\x12\x09\x05\x05\x04\x82\x2c" + strings.Repeat(entry, 300)},
		"1025 bytes of an entry":    {"\x03\x12\x09\x05\x05\x04\x01\x00\x03" + data(1024), "\x03\x12\x09\x05\x05\x04\x01\x00\x03" + data(1025)},
		"6 members":                 {"\x05\x12\x09\x05\x05\x05\x01\x01\x01\x01\x01\x00", "\x05\x12\x09\x05\x05\x06\x01\x01\x01\x01\x01\x01\x00"},
		"65537 bytes of a snapshot": {"\x05\x12\x09\x05\x05\x00" + data(65536), "\x05\x12\x09\x05\x05\x00" + data(65537)},
	} {
		if _, err := frame.Decode(sealed([]byte(q[0]))); err != api.OK {
			t.Errorf("%s: one fewer is refused: %d", name, err)
		}
		refused(t, name, sealed([]byte(q[1])), api.ErrFrame)
	}
}

// P7.2, P7.4: whatever has a right seal is refused, or is just what Encode makes of what it says.
func TestDecodeOfWhatIsSealed(t *testing.T) {
	taken := 0
	try := func(b []byte) {
		whole := sealed(b)
		m, err := frame.Decode(whole)
		switch {
		case err == api.OK:
			taken++
			if !mayBe(m) || !bytes.Equal(b, plain(m)) {
				t.Errorf("Decode of %x: %s", b, brief(m))
			}
		case err != api.ErrFrame || text(m) != text(api.Msg{}):
			t.Errorf("Decode of %x: %s %d", b, brief(m), err)
		}
	}
	few := []byte{0, 1, 2, 3, 4, 5, 0x12, 0x80, 0x81, 0xFF}
	for n := range 7 {
		b := make([]byte, n)
		for all := range power(len(few), n) {
			for i := range b {
				b[i], all = few[all%len(few)], all/len(few)
			}
			if n < 6 || b[1] == 0x12 && b[0] < 6 {
				try(b)
			}
		}
	}
	for _, q := range ordinary() {
		b := plain(q.msg)
		for i := range b {
			for c := range 256 {
				turned := bytes.Clone(b)
				turned[i] = byte(c)
				try(turned)
				try(slices.Insert(turned, i, 0x80))
				try(slices.Insert(bytes.Clone(b), i, byte(c)))
			}
			try(slices.Delete(bytes.Clone(b), i, i+1))
		}
	}
	if taken < 1000 {
		t.Errorf("only %d are messages", taken)
	}
}

func power(x, n int) int {
	out := 1
	for range n {
		out *= x
	}
	return out
}

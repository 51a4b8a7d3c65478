package frame

import (
	"tallyhouse/api"
	"tallyhouse/octet"
)

// stand is how a reader stands: where among its bytes, and whether it has met what no message's bytes have there.
type stand struct {
	*octet.Reader
	wrong bool
}

// reader reads a message. Behind what is wrong it reads on, as nobody asks what comes of that, and each count has a limit.
type reader struct {
	stand
	plain []byte
	msg   api.Msg
}

// Decode: P7.2.
func Decode(b []byte) (api.Msg, api.Errno) {
	if len(b) < api.Seal {
		return api.Msg{}, api.ErrShort
	}
	plain := b[api.Seal:]
	if !octet.Equal(b[:api.Seal], seal(plain)) {
		return api.Msg{}, api.ErrFrame
	}
	m, ok := read(plain)
	if !ok || Check(m) != api.OK {
		return api.Msg{}, api.ErrFrame
	}
	return m, api.OK
}

// read tells whether these are plain bytes to the last one. Whether the message may be, it does not ask.
func read(plain []byte) (api.Msg, bool) {
	r := &reader{stand: stand{Reader: octet.Read(plain)}, plain: plain}
	r.head()
	set := counting(r.msg.Kind)
	for number, field := range r.fields() {
		if set.has(number) {
			field()
		}
	}
	return r.msg, !r.wrong && r.Err() == api.OK && r.Left() == 0
}

// fields are what reads each field, found by its number.
func (r *reader) fields() [fieldsInAll]func() {
	return [...]func(){
		fieldOk:      r.ok,
		fieldPlace:   r.place,
		fieldCommit:  r.commit,
		fieldEntries: r.entries,
		fieldConf:    r.conf,
		fieldData:    r.data,
	}
}

func (r *reader) head() {
	r.msg.Kind = int(r.U8())
	both := r.U8()
	r.msg.From, r.msg.To = int(both>>4), int(both&15)
	r.msg.Term = r.short()
}

func (r *reader) ok() {
	b := r.U8()
	r.hold(b <= 1)
	r.msg.Ok = b == 1
}

func (r *reader) place() {
	r.msg.Place.Index = r.short()
	r.msg.Place.Term = r.short()
}

func (r *reader) commit() {
	r.msg.Commit = r.short()
}

// entries needs no look at a sum that wraps round: such a Term is below the one ahead of it, which Check refuses.
func (r *reader) entries() {
	term := r.msg.Place.Term
	for range r.count(api.MaxSend) {
		term += r.short()
		kind := int(r.U8())
		data := r.Raw(r.count(api.MaxData))
		r.msg.Entries = append(r.msg.Entries, api.Entry{Term: term, Kind: kind, Data: data})
	}
}

func (r *reader) conf() {
	for range r.count(api.MaxMembers) {
		r.msg.Conf.Members = append(r.msg.Conf.Members, int(r.U8()))
	}
}

func (r *reader) data() {
	r.msg.Data = r.Raw(r.count(api.MaxSnap))
}

// count is how many items come; where there are too many for a message, none is worth reading.
func (r *reader) count(limit uint64) int {
	n := r.short()
	r.hold(n <= limit)
	if r.wrong {
		return 0
	}
	return int(n)
}

func (r *reader) short() uint64 {
	x, size, ok := Long(r.plain[r.At():])
	r.hold(ok)
	r.Go(size)
	return x
}

// hold notes what does not hold.
func (r *reader) hold(is bool) {
	r.wrong = r.wrong || !is
}

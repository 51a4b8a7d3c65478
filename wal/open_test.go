package wal_test

import (
	"testing"

	"tallyhouse/api"
	"tallyhouse/disk"
	"tallyhouse/wal"
)

// refusedOpen fails the test where Open does not answer just that error, or has changed a sector.
func refusedOpen(t *testing.T, what string, d *disk.Disk, want api.Errno) {
	t.Helper()
	was := blocks(t, d)
	if w, err := wal.Open(d); w != nil || err != want {
		t.Errorf("%s: %v, error %d, not %d", what, w, err, want)
	}
	if len(d.Pending()) != 0 {
		t.Errorf("%s: something was written", what)
	}
	for i, b := range blocks(t, d) {
		if b != was[i] {
			t.Errorf("%s: sector %d was changed", what, i)
		}
	}
}

// bothSides is a disk with sheets on both sides of an area of 6; of the side 1 the head of turn 8 speaks, of the side 0 that of turn 7.
func bothSides(t *testing.T) (d *disk.Disk, zero, one state) {
	t.Helper()
	zero, one = state{data(3, 1), data(70, 2), nil}, state{data(64, 3), data(2, 4)}
	d = fresh(t, 14)
	for i, b := range []state{zero, one} {
		at := 2 + 6*i
		for _, b := range b {
			lay(t, d, at, saidSheet(b)...)
			at += len(saidSheet(b))
		}
	}
	lay(t, d, 0, headOf(8, 6, 1, one...).block(), headOf(7, 6, 0, zero...).block())
	return d, zero, one
}

// P4.2: what is there is told, the head that counts is that of the greater turn, and the next head says the same.
func TestOpen(t *testing.T) {
	d, zero, one := bothSides(t)
	w := opened(t, d)
	tells(t, "side 1", w, one, 3, 9, false)
	if w.Disk() != d {
		t.Error("another disk")
	}
	if got := blocks(t, d)[1]; got != headOf(9, 6, 1, one...).block() {
		t.Errorf("the next head: %x", got)
	}
	lay(t, d, 1, headOf(11, 6, 0, zero...).block())
	tells(t, "side 0", opened(t, d), zero, 2, 12, false)
	for i := range 5 {
		tells(t, "again", opened(t, d), zero, 2, 13+i, false)
	}
}

// P4.2: the sectors 0 and 1 are read, then those that the head speaks of; each of these reads may be refused, as may the write and the sync behind them.
func TestOpenRefused(t *testing.T) {
	d, _, one := bothSides(t)
	const reads = 2 + 3
	ops := d.Ops()
	tells(t, "Open", opened(t, d.Copy()), one, 3, 9, false)
	for n := range reads + 2 {
		c := d.Copy()
		says(t, "Fail", c.Fail(n), api.OK)
		if w, err := wal.Open(c); w != nil || err != api.ErrIo {
			t.Errorf("refused at %d: %v, error %d", n, w, err)
		}
		if c.Ops() != ops+n {
			t.Errorf("refused at %d: %d requests", n, c.Ops()-ops)
		}
		again := opened(t, c)
		want := 9
		if n == reads+1 {
			want = 10
		}
		tells(t, "opened again", again, one, 3, want, false)
	}
	c := d.Copy()
	says(t, "Fail", c.Fail(reads+2), api.OK)
	tells(t, "Open", opened(t, c), one, 3, 9, false)
	for n := range 2 {
		c := d.Copy()
		says(t, "Arm", c.Arm(n), api.OK)
		if w, err := wal.Open(c); w != nil || err != api.ErrDead {
			t.Errorf("armed with %d: %v, error %d", n, w, err)
		}
		if w, err := wal.Open(c); w != nil || err != api.ErrDead {
			t.Errorf("no power: %v, error %d", w, err)
		}
	}
}

// P4.2: the errors stand in their order: the disk's of the heads, no head, the disk's of the sheets, what is not there or the last turn, the disk's of the next head.
func TestOpenOrder(t *testing.T) {
	d := fresh(t, 14)
	d.Fail(0)
	refusedOpen(t, "sector 0", d, api.ErrIo)
	d.Fail(1)
	refusedOpen(t, "sector 1", d, api.ErrIo)
	d.Fail(2)
	refusedOpen(t, "no head", d, api.ErrWal)
	d.Fail(-1)
	for _, h := range []saidHead{headOf(api.WalTurns, 6, 0, nil), headOf(6, 6, 0, nil, nil)} {
		lay(t, d, 2, saidSheet(nil)...)
		lay(t, d, 3, api.Block{0: 1})
		lay(t, d, 0, h.block())
		d.Fail(2)
		refusedOpen(t, "the first sheet", d, api.ErrIo)
		d.Fail(2 + int(h.used))
		refusedOpen(t, "behind the sheets", d, api.ErrWal)
		d.Fail(-1)
		refusedOpen(t, "what the head says", d, api.ErrWal)
	}
	// A disk of one sector has no sector 1.
	refusedOpen(t, "one sector", fresh(t, 1), api.ErrArg)
	refusedOpen(t, "two sectors", fresh(t, 2), api.ErrWal)
}

// P4.2: sectors without a right head; each byte of one counts.
func TestNoHead(t *testing.T) {
	refusedOpen(t, "noughts", fresh(t, 14), api.ErrWal)
	d, _, one := bothSides(t)
	lay(t, d, 1, api.Block{})
	right := headOf(8, 6, 1, one...).block()
	for i := range right {
		for _, change := range []byte{1, 0x80, 0xff} {
			b := right
			b[i] ^= change
			lay(t, d, 0, b)
			refusedOpen(t, "a byte is another one", d, api.ErrWal)
		}
	}
	for n := range 64 {
		var b api.Block
		copy(b[:n], right[:n])
		lay(t, d, 0, b)
		refusedOpen(t, "its beginning", d, api.ErrWal)
	}
	var all api.Block
	for i := range all {
		all[i] = 255
	}
	lay(t, d, 0, all, seal(all))
	refusedOpen(t, "ones", d, api.ErrWal)
	lay(t, d, 0, seal(api.Block{}), seal(api.Block{}))
	refusedOpen(t, "sealed noughts", d, api.ErrWal)
	lay(t, d, 0, right, api.Block{})
	tells(t, "the head", opened(t, d), one, 3, 9, false)
}

// wrongHeads is heads of turn 8, sealed as they should be, that are not right on a disk of 14.
func wrongHeads(one state) map[string]api.Block {
	right := headOf(8, 6, 1, one...)
	out := map[string]api.Block{}
	for what, change := range map[string]func(*saidHead){
		"turn 0":              func(h *saidHead) { h.turn = 0 },
		"a turn too many":     func(h *saidHead) { h.turn = api.WalTurns + 2 },
		"a turn far too many": func(h *saidHead) { h.turn = 1<<32 - 2 },
		"the highest bit":     func(h *saidHead) { h.turn = 1<<31 + 8 },
		"odd":                 func(h *saidHead) { h.turn = 9 },
		"area 0":              func(h *saidHead) { h.area = 0 },
		"area 3":              func(h *saidHead) { h.area = 3 },
		"area 7":              func(h *saidHead) { h.area = 7 },
		"area 1001":           func(h *saidHead) { h.area = 1001 },
		"area 2^32 - 1":       func(h *saidHead) { h.area = 1<<32 - 1 },
		"area 2^31 + 6":       func(h *saidHead) { h.area = 1<<31 + 6 },
		"side 2":              func(h *saidHead) { h.side = 2 },
		"side 3":              func(h *saidHead) { h.side = 3 },
		"side 2^32 - 1":       func(h *saidHead) { h.side = 1<<32 - 1 },
		"no sheet":            func(h *saidHead) { h.count = 0 },
		"nothing":             func(h *saidHead) { h.count, h.used, h.mark = 0, 0, saidMark() },
	} {
		h := right
		change(&h)
		out[what] = h.block()
	}
	for _, i := range []int{0, 3, 7, 32, 45, 59} {
		b := right.block()
		b[i] ^= 1
		out["byte "+string(rune('A'+i))] = seal(b)
	}
	for i := 60; i < 64; i++ {
		b := right.block()
		b[i] ^= 1
		out["seal "+string(rune('A'+i))] = b
	}
	return out
}

// P4.2: a head that is not right, though it is sealed, is as none: alone ErrWal, else the other one counts.
func TestWrongHeads(t *testing.T) {
	d, zero, one := bothSides(t)
	for what, b := range wrongHeads(one) {
		lay(t, d, 0, b, api.Block{})
		refusedOpen(t, what, d, api.ErrWal)
		lay(t, d, 1, headOf(7, 6, 0, zero...).block())
		tells(t, what, opened(t, d), zero, 2, 8, false)
	}
	// A head stands in the sector of its turn alone.
	lay(t, d, 0, headOf(7, 6, 0, zero...).block(), headOf(8, 6, 1, one...).block())
	refusedOpen(t, "both in the other one's place", d, api.ErrWal)
	lay(t, d, 0, headOf(8, 6, 1, one...).block(), headOf(10, 6, 0, zero...).block())
	tells(t, "one in the other one's place", opened(t, d), one, 3, 9, false)
}

// P4.2: areas at their edges, on a disk that just has them, and one sector too few.
func TestOpenAreas(t *testing.T) {
	for _, q := range []struct {
		area, sectors int
		err           api.Errno
	}{
		{4, 10, api.OK}, {4, 9, api.ErrWal}, {4, 2048, api.OK}, {3, 10, api.ErrWal}, {3, 8, api.ErrWal},
		{1000, 2002, api.OK}, {1000, 2001, api.ErrWal}, {1001, 2004, api.ErrWal}, {1001, 2048, api.ErrWal}, {1023, 2048, api.ErrWal},
	} {
		for _, side := range []int{0, 1} {
			d := fresh(t, q.sectors)
			lay(t, d, 1, headOf(5, q.area, side, nil).block())
			if q.err != api.OK {
				refusedOpen(t, "an area", d, q.err)
				continue
			}
			tells(t, "an area", opened(t, d), state{nil}, q.area-1, 6, false)
		}
	}
}

// P4.2: a right head that says what is not there: ErrWal, though the other head's sheets are there.
func TestNotThere(t *testing.T) {
	d, zero, one := bothSides(t)
	right := headOf(8, 6, 1, one...)
	for what, change := range map[string]func(*saidHead){
		"a sector too few":   func(h *saidHead) { h.used-- },
		"a sector too many":  func(h *saidHead) { h.used++ },
		"all sectors":        func(h *saidHead) { h.used = 6 },
		"beyond the side":    func(h *saidHead) { h.used = 7 },
		"far beyond":         func(h *saidHead) { h.used = 1<<32 - 1 },
		"the highest bit":    func(h *saidHead) { h.used |= 1 << 31 },
		"no sector":          func(h *saidHead) { h.used = 0 },
		"a sheet too few":    func(h *saidHead) { h.count-- },
		"a sheet too many":   func(h *saidHead) { h.count++ },
		"many sheets":        func(h *saidHead) { h.count = 1<<32 - 1 },
		"another mark":       func(h *saidHead) { h.mark = []byte{1, 2, 3, 4} },
		"one bit":            func(h *saidHead) { h.mark[3] ^= 1 },
		"the mark of none":   func(h *saidHead) { h.mark = saidMark() },
		"of the first alone": func(h *saidHead) { h.mark = saidMark(one[0]) },
		"of the last alone":  func(h *saidHead) { h.mark = saidMark(one[1]) },
		"the other way":      func(h *saidHead) { h.mark = saidMark(one[1], one[0]) },
		"the other side":     func(h *saidHead) { h.side = 0 },
		"another area":       func(h *saidHead) { h.area = 5 },
		"both less, no mark": func(h *saidHead) { h.used, h.count = 2, 1 },
	} {
		h := right
		h.mark = saidMark(one...)
		change(&h)
		lay(t, d, 0, h.block(), headOf(7, 6, 0, zero...).block())
		refusedOpen(t, what, d, api.ErrWal)
		lay(t, d, 1, api.Block{})
		refusedOpen(t, what+", alone", d, api.ErrWal)
		lay(t, d, 1, headOf(9, 6, 0, zero...).block())
		tells(t, what+", but an older one", opened(t, d), zero, 2, 10, false)
	}
	lay(t, d, 0, headOf(8, 6, 1, one[0]).block(), api.Block{})
	tells(t, "the first sheet alone", opened(t, d), one[:1], 4, 9, false)
}

// P4.2: sectors that are not just the sheets: each bit of them counts, their noughts too.
func TestOtherSheets(t *testing.T) {
	d, _, one := bothSides(t)
	was := blocks(t, d)
	for i := range 3 {
		for bit := range 512 {
			b := was[8+i]
			b[bit/8] ^= 1 << (bit % 8)
			lay(t, d, 8+i, b)
			refusedOpen(t, "a bit is another one", d, api.ErrWal)
		}
		lay(t, d, 8+i, was[8+i])
	}
	lay(t, d, 11, api.Block{5: 1})
	tells(t, "behind the sheets", opened(t, d), one, 3, 9, false)
}

// P4.2: counts of a sheet that may not be, though the head speaks of as many sectors.
func TestCountsOfSheets(t *testing.T) {
	for _, count := range []uint32{61, 64, 185, 253, api.MaxTx, api.MaxTx + 1, 1<<31 - 1, 1 << 31, 1<<32 - 4, 1<<32 - 1} {
		for _, used := range []uint32{1, 3} {
			d := fresh(t, 2+2*1000)
			var b api.Block
			copy(b[:], four(count))
			lay(t, d, 2, b)
			h := headOf(2, 1000, 0, nil)
			h.used, h.mark = used, saidMark(make([]byte, min(count, 64*used-4)))
			lay(t, d, 0, h.block())
			if used == 3 && count > 124 && count <= 188 {
				tells(t, "a count", opened(t, d), state{make([]byte, count)}, 997, 3, false)
				continue
			}
			refusedOpen(t, "a count", d, api.ErrWal)
		}
	}
	// One byte more than MaxTx: the sectors and the mark are those of so many bytes.
	d := fresh(t, 2002)
	for _, n := range []int{api.MaxTx, api.MaxTx + 1} {
		b := data(n, 5)
		lay(t, d, 2, saidSheet(b)...)
		lay(t, d, 0, headOf(2, 1000, 0, b).block(), api.Block{})
		if n > api.MaxTx {
			refusedOpen(t, "one byte too many", d, api.ErrWal)
			continue
		}
		tells(t, "the most", opened(t, d), state{b}, 218, 3, false)
	}
}

// P4.2, P4.3: the last turn: it is told, but no head stands behind it.
func TestLastTurn(t *testing.T) {
	d, zero, one := bothSides(t)
	lay(t, d, 0, headOf(api.WalTurns, 6, 1, one...).block())
	refusedOpen(t, "the last turn", d, api.ErrWal)
	lay(t, d, 0, headOf(api.WalTurns-2, 6, 1, one...).block(), headOf(api.WalTurns-1, 6, 0, zero...).block())
	w := opened(t, d)
	ops := d.Ops()
	for _, b := range [][]byte{nil, data(1, 1), data(api.MaxTx, 1)} {
		says(t, "Append", w.Append(b), api.ErrFull)
		says(t, "Checkpoint", w.Checkpoint(b), api.ErrFull)
	}
	says(t, "Append", w.Append(data(api.MaxTx+1, 1)), api.ErrLong)
	says(t, "Checkpoint", w.Checkpoint(data(api.MaxTx+1, 1)), api.ErrLong)
	tells(t, "the last turn", w, zero, 2, api.WalTurns, false)
	if d.Ops() != ops || len(d.Pending()) != 0 {
		t.Error("something was asked of the disk")
	}
	refusedOpen(t, "the last turn", d, api.ErrWal)

	for _, put := range []func(*wal.Wal) api.Errno{
		func(w *wal.Wal) api.Errno { return w.Append(nil) },
		func(w *wal.Wal) api.Errno { return w.Checkpoint(nil) },
	} {
		lay(t, d, 0, headOf(api.WalTurns-2, 6, 1, one...).block(), api.Block{})
		w := opened(t, d)
		says(t, "the last one", put(w), api.OK)
		says(t, "one more", put(w), api.ErrFull)
		if w.Turn() != api.WalTurns {
			t.Errorf("Turn %d", w.Turn())
		}
	}
}

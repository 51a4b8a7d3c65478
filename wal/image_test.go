package wal_test

import (
	"bytes"
	"slices"
	"testing"

	"tallyhouse/api"
	"tallyhouse/blake"
	"tallyhouse/disk"
	"tallyhouse/wal"
)

// four is a number's bytes, the highest first.
func four(x uint32) []byte {
	return []byte{byte(x >> 24), byte(x >> 16), byte(x >> 8), byte(x)}
}

// firstFour is the first four bytes of a digest.
func firstFour(b []byte) []byte {
	id := blake.Sum(b)
	return id[:4]
}

// saidMark is the mark of sheets, as the chapter says it.
func saidMark(sheets ...[]byte) []byte {
	mark := []byte{0, 0, 0, 0}
	for _, b := range sheets {
		mark = firstFour(append(bytes.Clone(mark), b...))
	}
	return mark
}

// saidSheet is the blocks of a sheet.
func saidSheet(b []byte) []api.Block {
	whole := append(four(uint32(len(b))), b...)
	var out []api.Block
	for len(whole) > 0 {
		var one api.Block
		n := copy(one[:], whole)
		out, whole = append(out, one), whole[n:]
	}
	return out
}

// saidHead is a head's fields; what is not the chapter's is laid into it by the tests.
type saidHead struct {
	turn, area, side, used, count uint32
	mark                          []byte
}

// headOf is the head of these sheets.
func headOf(turn, area, side int, sheets ...[]byte) saidHead {
	used := 0
	for _, b := range sheets {
		used += len(saidSheet(b))
	}
	return saidHead{uint32(turn), uint32(area), uint32(side), uint32(used), uint32(len(sheets)), saidMark(sheets...)}
}

func (h saidHead) block() api.Block {
	b := []byte("tallywal")
	for _, x := range []uint32{h.turn, h.area, h.side, h.used, h.count} {
		b = append(b, four(x)...)
	}
	var out api.Block
	copy(out[:], append(b, h.mark...))
	return seal(out)
}

// seal puts the right last four bytes of a head there.
func seal(b api.Block) api.Block {
	copy(b[60:], firstFour(b[:60]))
	return b
}

// data is n bytes, other ones for each kind.
func data(n, kind int) []byte {
	out := make([]byte, n)
	for i := range out {
		out[i] = byte(i*7 + kind*31 + n + 1)
	}
	return out
}

// fresh is a new disk of so many sectors.
func fresh(t *testing.T, sectors int) *disk.Disk {
	t.Helper()
	d, err := disk.New(sectors)
	if err != api.OK {
		t.Fatalf("New(%d): error %d", sectors, err)
	}
	return d
}

// formatted is a log on a new disk of just as many sectors as it needs.
func formatted(t *testing.T, area int) *wal.Wal {
	t.Helper()
	w, err := wal.Format(fresh(t, 2+2*area), area)
	if err != api.OK || w == nil {
		t.Fatalf("Format(%d): %v, error %d", area, w, err)
	}
	return w
}

// opened is the log of a disk.
func opened(t *testing.T, d *disk.Disk) *wal.Wal {
	t.Helper()
	w, err := wal.Open(d)
	if err != api.OK || w == nil {
		t.Fatalf("Open: %v, error %d", w, err)
	}
	return w
}

// says fails the test where a call did not answer that error.
func says(t *testing.T, what string, got, want api.Errno) {
	t.Helper()
	if got != want {
		t.Errorf("%s: error %d, not %d", what, got, want)
	}
}

// blocks is what all sectors of a disk read as; a copy is asked, so that it counts for nothing.
func blocks(t *testing.T, d *disk.Disk) []api.Block {
	t.Helper()
	c := d.Copy()
	c.Fail(-1)
	out := make([]api.Block, c.Len())
	for i := range out {
		b, err := c.Read(i)
		if err != api.OK {
			t.Fatalf("Read(%d): error %d", i, err)
		}
		out[i] = b
	}
	return out
}

// lay writes blocks from a sector on, and syncs them.
func lay(t *testing.T, d *disk.Disk, first int, all ...api.Block) {
	t.Helper()
	for i, b := range all {
		says(t, "Write", d.Write(first+i, b), api.OK)
	}
	says(t, "Sync", d.Sync(), api.OK)
}

// state is what a log tells of its sheets: the snapshot, and the transactions.
type state [][]byte

func same(a, b state) bool {
	return slices.EqualFunc(a, b, bytes.Equal)
}

// with is the state behind an Append.
func (s state) with(b []byte) state {
	return append(slices.Clone(s), b)
}

// lasts is the state that a log tells; the numbers of its transactions are to be 1, 2, and so on.
func lasts(t *testing.T, w *wal.Wal) state {
	t.Helper()
	out := state{w.Snapshot()}
	for i, b := range w.All() {
		if i != len(out) {
			t.Errorf("transaction %d is numbered %d", len(out), i)
		}
		out = append(out, b)
	}
	if w.Len() != len(out)-1 {
		t.Errorf("Len %d, not %d", w.Len(), len(out)-1)
	}
	return out
}

// tells fails the test where a log does not tell just this.
func tells(t *testing.T, what string, w *wal.Wal, s state, left, turn int, broken bool) {
	t.Helper()
	if got := lasts(t, w); !same(got, s) {
		t.Errorf("%s: %v, not %v", what, got, s)
	}
	if w.Left() != left || w.Turn() != uint32(turn) || w.Broken() != broken {
		t.Errorf("%s: Left %d, Turn %d, Broken %v; not %d, %d, %v", what, w.Left(), w.Turn(), w.Broken(), left, turn, broken)
	}
}

// room is how many sectors of a side are behind a state's sheets.
func (s state) room(area int) int {
	for _, b := range s {
		area -= len(saidSheet(b))
	}
	return area
}

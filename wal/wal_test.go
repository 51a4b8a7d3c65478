package wal_test

import (
	"bytes"
	"math"
	"slices"
	"testing"

	"tallyhouse/api"
	"tallyhouse/disk"
	"tallyhouse/wal"
)

// P4.1 to P4.4: the chapter's examples, one behind the other.
func TestExamples(t *testing.T) {
	d := fresh(t, 10)
	w, err := wal.Format(d, 4)
	says(t, "Format", err, api.OK)
	tells(t, "Format", w, state{nil}, 3, 1, false)

	says(t, "60 bytes", w.Append(data(60, 1)), api.OK)
	says(t, "61 bytes", w.Append(data(61, 2)), api.OK)
	says(t, "no room", w.Append(data(1, 3)), api.ErrFull)
	tells(t, "two transactions", w, state{nil, data(60, 1), data(61, 2)}, 0, 3, false)

	says(t, "Checkpoint", w.Checkpoint(data(1, 4)), api.OK)
	tells(t, "Checkpoint", w, state{data(1, 4)}, 3, 4, false)

	says(t, "Arm", d.Arm(2), api.OK)
	says(t, "the power goes", w.Append(data(1, 5)), api.ErrDead)
	says(t, "broken", w.Append(data(1, 5)), api.ErrIo)
	tells(t, "broken", w, state{data(1, 4)}, 3, 4, true)

	says(t, "Crash", d.Crash(slices.Repeat([]bool{true}, 20)), api.OK)
	tells(t, "Open", opened(t, d), state{data(1, 4)}, 3, 5, false)

	if w, err := wal.Open(fresh(t, 10)); w != nil || err != api.ErrWal {
		t.Errorf("Open of a new disk: %v, error %d", w, err)
	}
	if w, err := wal.Format(d, 3); w != nil || err != api.ErrArg {
		t.Errorf("Format(3): %v, error %d", w, err)
	}
	if wal.Sectors(60) != 1 || wal.Sectors(61) != 2 {
		t.Errorf("Sectors: %d, %d", wal.Sectors(60), wal.Sectors(61))
	}
}

// P4.1: Sectors is how many blocks a sheet has, at each number that may be; 0 of the others.
func TestSectors(t *testing.T) {
	for _, q := range [][2]int{
		{0, 1}, {1, 1}, {59, 1}, {60, 1}, {61, 2}, {124, 2}, {125, 3}, {49980, 781}, {49981, 782}, {api.MaxTx, 782},
		{-1, 0}, {-4, 0}, {-64, 0}, {math.MinInt, 0}, {api.MaxTx + 1, 0}, {2 * api.MaxTx, 0}, {1 << 32, 0}, {math.MaxInt, 0}, {math.MaxInt - 3, 0},
	} {
		if got := wal.Sectors(q[0]); got != q[1] {
			t.Errorf("Sectors(%d): %d, not %d", q[0], got, q[1])
		}
	}
	for n := 0; n <= api.MaxTx; n++ {
		if got := wal.Sectors(n); got*64 < n+4 || (got-1)*64 >= n+4 {
			t.Fatalf("Sectors(%d): %d", n, got)
		}
	}
}

// P4.1: areas at their edges, on disks that just have enough, and one sector too few.
func TestFormatAreas(t *testing.T) {
	for _, area := range []int{api.MinArea, 5, 10, 999, api.MaxArea} {
		for _, more := range []int{0, 1} {
			d := fresh(t, 2+2*area+more)
			w, err := wal.Format(d, area)
			says(t, "Format", err, api.OK)
			tells(t, "Format", w, state{nil}, area-1, 1, false)
			if w.Disk() != d {
				t.Errorf("area %d: another disk", area)
			}
		}
		refusedFormat(t, fresh(t, 1+2*area), area, api.ErrArg)
	}
	for _, area := range []int{math.MinInt, -1 << 32, -1, 0, 1, 3, 1001, 1023, 2048, 1<<32 + 4, 1<<62 + 4, math.MaxInt} {
		refusedFormat(t, fresh(t, api.MostSectors), area, api.ErrArg)
	}
	refusedFormat(t, fresh(t, 1), 4, api.ErrArg)
	refusedFormat(t, nil, 4, api.ErrNil)
	refusedFormat(t, nil, 3, api.ErrNil)
	dead := fresh(t, 10)
	dead.Arm(0)
	dead.Sync()
	refusedFormat(t, dead, 3, api.ErrArg)
	refusedFormat(t, dead, 4, api.ErrDead)
}

// refusedFormat fails the test where Format does not answer just that error, or asked something of the disk.
func refusedFormat(t *testing.T, d *disk.Disk, area int, want api.Errno) {
	t.Helper()
	if w, err := wal.Format(d, area); w != nil || err != want {
		t.Errorf("Format(%d of %d): %v, error %d, not %d", area, d.Len(), w, err, want)
	}
	if d.Ops() != 0 || len(d.Pending()) != 0 {
		t.Errorf("Format(%d of %d): something was asked of the disk", area, d.Len())
	}
}

// P4.1, P4.3, P4.2: what stands in each sector of the disk, behind each call.
func TestSectorsOnDisk(t *testing.T) {
	const area = 5
	d := fresh(t, 2+2*area+1)
	want := make([]api.Block, d.Len())
	alike := func(what string) {
		t.Helper()
		got := blocks(t, d)
		for i := range want {
			if got[i] != want[i] {
				t.Errorf("%s: sector %d: %x, not %x", what, i, got[i], want[i])
			}
		}
		if len(d.Pending()) != 0 {
			t.Errorf("%s: not all is synced: %v", what, d.Pending())
		}
	}
	w, err := wal.Format(d, area)
	says(t, "Format", err, api.OK)
	want[1] = headOf(1, area, 0, nil).block()
	alike("Format")

	a, b, c, e := data(60, 1), data(61, 2), data(125, 3), data(1, 4)
	says(t, "Append", w.Append(a), api.OK)
	want[0] = headOf(2, area, 0, nil, a).block()
	copy(want[3:], saidSheet(a))
	alike("one sector")
	says(t, "Append", w.Append(b), api.OK)
	want[1] = headOf(3, area, 0, nil, a, b).block()
	copy(want[4:], saidSheet(b))
	alike("two sectors")
	says(t, "Checkpoint", w.Checkpoint(c), api.OK)
	want[0] = headOf(4, area, 1, c).block()
	copy(want[7:], saidSheet(c))
	alike("the other side")
	w = opened(t, d)
	want[1] = headOf(5, area, 1, c).block()
	alike("Open")
	says(t, "Append", w.Append(nil), api.OK)
	want[0] = headOf(6, area, 1, c, nil).block()
	copy(want[10:], saidSheet(nil))
	alike("no bytes")
	says(t, "Append", w.Append(e), api.OK)
	want[1] = headOf(7, area, 1, c, nil, e).block()
	copy(want[11:], saidSheet(e))
	alike("just full")
	says(t, "Checkpoint", w.Checkpoint(e), api.OK)
	want[0] = headOf(8, area, 0, e).block()
	copy(want[2:], saidSheet(e))
	alike("back")
}

// P4.1: a log that was on the disk is gone, whatever its turn.
func TestFormatAnew(t *testing.T) {
	for _, calls := range []int{1, 2, 5} {
		w := formatted(t, 9)
		for i := range calls {
			says(t, "Append", w.Append(data(5, i)), api.OK)
		}
		w, err := wal.Format(w.Disk(), 4)
		says(t, "Format", err, api.OK)
		tells(t, "Format", w, state{nil}, 3, 1, false)
		tells(t, "Open", opened(t, w.Disk()), state{nil}, 3, 2, false)
	}
}

// P4.3: of errors the first one is answered, and nothing is asked of the disk.
func TestPutErrors(t *testing.T) {
	for _, area := range []int{4, 783, 784, 1000} {
		w := formatted(t, area)
		much, more := data(api.MaxTx, 1), data(api.MaxTx+1, 1)
		ops := w.Disk().Ops()
		says(t, "Append of too much", w.Append(more), api.ErrLong)
		says(t, "Checkpoint of too much", w.Checkpoint(more), api.ErrLong)
		if area == 4 {
			says(t, "Append", w.Append(much), api.ErrFull)
			says(t, "Checkpoint", w.Checkpoint(much), api.ErrFull)
		}
		tells(t, "nothing", w, state{nil}, area-1, 1, false)
		if w.Disk().Ops() != ops || len(w.Disk().Pending()) != 0 {
			t.Errorf("area %d: something was asked of the disk", area)
		}
		if area == 4 {
			continue
		}
		says(t, "Append of the most", w.Append(much), api.OK)
		tells(t, "the most", w, state{nil, much}, area-783, 2, false)
		says(t, "Checkpoint of the most", w.Checkpoint(much), api.OK)
		tells(t, "the most", opened(t, w.Disk()), state{much}, area-782, 4, false)
		w.Disk().Arm(0)
		says(t, "no power", w.Append(nil), api.ErrDead)
		says(t, "broken", w.Append(more), api.ErrIo)
		says(t, "broken", w.Checkpoint(more), api.ErrIo)
	}
}

// P4.3: an area in which the most bytes just have room, and one sector less.
func TestMostBytesJustFit(t *testing.T) {
	much := data(api.MaxTx, 1)
	w := formatted(t, 782)
	says(t, "Append", w.Append(much), api.ErrFull)
	says(t, "Checkpoint", w.Checkpoint(much), api.OK)
	tells(t, "just full", w, state{much}, 0, 2, false)
	says(t, "Append", w.Append(nil), api.ErrFull)
	says(t, "Checkpoint", w.Checkpoint(much), api.OK)
	tells(t, "just full", opened(t, w.Disk()), state{much}, 0, 4, false)
	w = formatted(t, 781)
	says(t, "Checkpoint", w.Checkpoint(much), api.ErrFull)
	tells(t, "too little", w, state{nil}, 780, 1, false)
}

// P4.3: a side that is just full, and one that has one sector too few, at each size of a sheet.
func TestJustFull(t *testing.T) {
	const area = 8
	for size := 1; size <= area+1; size++ {
		b := data(64*size-4, size)
		for used := 1; used <= area; used++ {
			w, now := formatted(t, area), state{data(64*used-4, used)}
			says(t, "Checkpoint", w.Checkpoint(now[0]), api.OK)
			tells(t, "Checkpoint", w, now, area-used, 2, false)
			if used+size > area {
				says(t, "Append", w.Append(b), api.ErrFull)
				tells(t, "no room", w, now, area-used, 2, false)
			} else {
				says(t, "Append", w.Append(b), api.OK)
				tells(t, "room", w, now.with(b), area-used-size, 3, false)
			}
			// What is left on this side says nothing of the other one.
			turn := int(w.Turn())
			if size > area {
				says(t, "Checkpoint", w.Checkpoint(b), api.ErrFull)
			} else {
				says(t, "Checkpoint", w.Checkpoint(b), api.OK)
				tells(t, "Checkpoint", w, state{b}, area-size, turn+1, false)
			}
		}
	}
}

// P4.3: there and back, again and again; old sheets of a side count no more.
func TestSides(t *testing.T) {
	const area = 6
	w, now := formatted(t, area), state{nil}
	turn := 1
	for round := range 12 {
		for k := range 1 + round%4 {
			b := data(round+k, round)
			says(t, "Append", w.Append(b), api.OK)
			now = now.with(b)
			turn++
			tells(t, "Append", w, now, now.room(area), turn, false)
		}
		now = state{data(10*round, round)}
		says(t, "Checkpoint", w.Checkpoint(now[0]), api.OK)
		turn++
		tells(t, "Checkpoint", w, now, now.room(area), turn, false)
		if round%3 == 2 {
			w = opened(t, w.Disk())
			turn++
			tells(t, "Open", w, now, now.room(area), turn, false)
		}
	}
}

// P4.4: All is of when it was called; it may be left early, and gone through again.
func TestAll(t *testing.T) {
	w := formatted(t, 20)
	none := w.All()
	for i := range 4 {
		says(t, "Append", w.Append(data(3, i)), api.OK)
	}
	four := w.All()
	says(t, "Append", w.Append(data(3, 9)), api.OK)
	five := w.All()
	says(t, "Checkpoint", w.Checkpoint(nil), api.OK)
	says(t, "Append", w.Append(data(3, 10)), api.OK)
	for range 2 {
		for i := range none {
			t.Errorf("of nothing: %d", i)
		}
		met := 0
		for i, b := range four {
			if met++; i != met || !bytes.Equal(b, data(3, i-1)) {
				t.Errorf("%d: %d, %v", met, i, b)
			}
		}
		if met != 4 {
			t.Errorf("%d, not 4", met)
		}
		for i, b := range five {
			if met = i; i == 5 && !bytes.Equal(b, data(3, 9)) {
				t.Errorf("the fifth: %v", b)
			}
		}
		if met != 5 {
			t.Errorf("%d, not 5", met)
		}
		for stop := 1; stop <= 4; stop++ {
			met = 0
			for range four {
				if met++; met == stop {
					break
				}
			}
			if met != stop {
				t.Errorf("left at %d, not %d", met, stop)
			}
		}
	}
}

// P4.3, P4.4, R3: what is handed in is neither kept nor changed; what is told is in memory of its own.
func TestOwnMemory(t *testing.T) {
	for _, anew := range []bool{false, true} {
		w := formatted(t, 20)
		room := data(40, 1)
		was := bytes.Clone(room)
		says(t, "Checkpoint", w.Checkpoint(room[:5]), api.OK)
		says(t, "Append", w.Append(room[5:20]), api.OK)
		says(t, "Append", w.Append(room[20:21]), api.OK)
		if !bytes.Equal(room, was) {
			t.Errorf("the bytes were changed: %v", room)
		}
		want := state{was[:5], was[5:20], was[20:21]}
		spoil(room)
		if anew {
			w = opened(t, w.Disk())
		}
		for range 2 {
			spoil(w.Snapshot())
			for _, b := range w.All() {
				spoil(b)
			}
			if got := lasts(t, w); !same(got, want) {
				t.Errorf("memory is shared: %v, not %v", got, want)
			}
		}
		all := w.All()
		for _, b := range all {
			spoil(b)
		}
		for i, b := range all {
			if !bytes.Equal(b, want[i]) {
				t.Errorf("gone through again: %v, not %v", b, want[i])
			}
		}
		says(t, "Append", w.Append(was), api.OK)
		tells(t, "Open", opened(t, w.Disk()), want.with(was), 16, int(w.Turn())+1, false)
	}
}

// spoil changes all bytes, and those in the room behind their end.
func spoil(b []byte) {
	b = b[:cap(b)]
	for i := range b {
		b[i] ^= 0x55
	}
}

// P4.1 to P4.4: the answers of nil.
func TestNil(t *testing.T) {
	var w *wal.Wal
	for _, b := range [][]byte{nil, data(1, 1), data(api.MaxTx+1, 1)} {
		says(t, "Append", w.Append(b), api.ErrNil)
		says(t, "Checkpoint", w.Checkpoint(b), api.ErrNil)
	}
	if len(w.Snapshot()) != 0 || w.Len() != 0 || w.Left() != 0 || w.Turn() != 0 || w.Broken() || w.Disk() != nil {
		t.Errorf("nil: %v, %d, %d, %d, %v, %v", w.Snapshot(), w.Len(), w.Left(), w.Turn(), w.Broken(), w.Disk())
	}
	for i, b := range w.All() {
		t.Errorf("nil: %d, %v", i, b)
	}
	if w, err := wal.Open(nil); w != nil || err != api.ErrNil {
		t.Errorf("Open: %v, error %d", w, err)
	}
}

// R5: two logs have nothing in common.
func TestLogsApart(t *testing.T) {
	one, two := formatted(t, 6), formatted(t, 6)
	says(t, "Append", one.Append(data(3, 1)), api.OK)
	one.Disk().Arm(0)
	says(t, "Append", one.Append(data(3, 1)), api.ErrDead)
	tells(t, "the other one", two, state{nil}, 5, 1, false)
	says(t, "Append", two.Append(data(4, 2)), api.OK)
	tells(t, "the one", one, state{nil, data(3, 1)}, 4, 2, true)
	tells(t, "the other one", two, state{nil, data(4, 2)}, 4, 2, false)
}

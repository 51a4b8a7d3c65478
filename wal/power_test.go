package wal_test

import (
	"slices"
	"testing"

	"tallyhouse/api"
	"tallyhouse/disk"
	"tallyhouse/wal"
)

// call is something that is done to a log, and what it makes of the log's state.
type call struct {
	what  string
	do    func(*wal.Wal) (*wal.Wal, api.Errno)
	makes func(state) state
	want  func(h saidHead) []written // what it writes of a log with that head
}

// written is a sector that is written, or, below 0, a sync.
type written int

const synced = written(-1)

func appends(b []byte) call {
	return call{
		"Append",
		func(w *wal.Wal) (*wal.Wal, api.Errno) { return w, w.Append(b) },
		func(s state) state { return s.with(b) },
		func(h saidHead) []written { return puts(int(2+h.side*h.area+h.used), b, h.turn+1) },
	}
}

func checkpoints(b []byte) call {
	return call{
		"Checkpoint",
		func(w *wal.Wal) (*wal.Wal, api.Errno) { return w, w.Checkpoint(b) },
		func(state) state { return state{b} },
		func(h saidHead) []written { return puts(int(2+(1-h.side)*h.area), b, h.turn+1) },
	}
}

func opens() call {
	return call{
		"Open",
		func(w *wal.Wal) (*wal.Wal, api.Errno) { return wal.Open(w.Disk()) },
		func(s state) state { return s },
		func(h saidHead) []written { return []written{written((h.turn + 1) % 2), synced} },
	}
}

// puts is the writes of a sheet at a sector, and of the head of a turn.
func puts(at int, b []byte, turn uint32) []written {
	var out []written
	for i := range saidSheet(b) {
		out = append(out, written(at+i))
	}
	return append(out, synced, written(turn%2), synced)
}

func calls() []call {
	return []call{
		appends(nil), appends(data(60, 1)), appends(data(61, 2)), appends(data(250, 3)), appends(data(330, 4)),
		checkpoints(nil), checkpoints(data(60, 5)), checkpoints(data(200, 6)), checkpoints(data(500, 7)), opens(),
	}
}

// begins makes logs of an area of 16 to begin with, each time anew; the disk of each has all synced.
func begins() []func(*testing.T) *wal.Wal {
	all := []call{appends(data(70, 11)), checkpoints(data(300, 12)), appends(data(1, 13)), checkpoints(data(64, 14))}
	var out []func(*testing.T) *wal.Wal
	for n := range len(all) + 1 {
		out = append(out, func(t *testing.T) *wal.Wal {
			t.Helper()
			w := formatted(t, 16)
			for _, c := range all[:n] {
				_, err := c.do(w)
				says(t, c.what, err, api.OK)
			}
			return w
		})
	}
	return out
}

// headNow is the head of a log, as the tests see it on its disk.
func headNow(t *testing.T, w *wal.Wal) saidHead {
	t.Helper()
	s := lasts(t, w)
	b := blocks(t, w.Disk())
	for side := range 2 {
		area := int(b[w.Turn()%2][15]) // areas of the tests are below 256
		h := headOf(int(w.Turn()), area, side, s...)
		if b[w.Turn()%2] == h.block() {
			return h
		}
	}
	t.Fatalf("no head of the turn %d", w.Turn())
	return saidHead{}
}

// patterns is all rows of so many answers.
func patterns(n int) [][]bool {
	var out [][]bool
	for bits := range 1 << n {
		keep := make([]bool, n)
		for i := range keep {
			keep[i] = bits>>i&1 == 1
		}
		out = append(out, keep)
	}
	return out
}

// pending is the sectors that wait in a disk's queue.
func pending(d *disk.Disk) []written {
	var out []written
	for _, i := range d.Pending() {
		out = append(out, written(i))
	}
	return out
}

// waiting is what waits behind so many writes and syncs.
func waiting(all []written) []written {
	for i := len(all) - 1; i >= 0; i-- {
		if all[i] == synced {
			return all[i+1:]
		}
	}
	return all
}

// P4.2, P4.3: what each call writes and syncs, and in which order; behind as many as it has nothing is asked.
func TestWrites(t *testing.T) {
	for _, from := range begins() {
		for _, c := range calls() {
			want := c.want(headNow(t, from(t)))
			for n := range len(want) + 1 {
				w := from(t)
				d := w.Disk()
				d.Arm(n)
				_, err := c.do(w)
				if n == len(want) {
					says(t, c.what, err, api.OK)
					says(t, "armed no more", d.Sync(), api.ErrDead)
					continue
				}
				says(t, c.what, err, api.ErrDead)
				if got := pending(d); !slices.Equal(got, waiting(want[:n])) {
					t.Errorf("%s, %d: %v waits, not %v", c.what, n, got, waiting(want[:n]))
				}
			}
		}
	}
}

// P4.1: what Format writes and syncs; each of them may be refused, and then there is no log.
func TestFormatWrites(t *testing.T) {
	want := []written{0, 1, synced, 2, synced, 1, synced}
	for n := range len(want) {
		d := fresh(t, 10)
		d.Arm(n)
		if w, err := wal.Format(d, 4); w != nil || err != api.ErrDead {
			t.Errorf("armed with %d: %v, error %d", n, w, err)
		}
		if got := pending(d); !slices.Equal(got, waiting(want[:n])) || d.Ops() != n {
			t.Errorf("armed with %d: %v waits, %d requests", n, got, d.Ops())
		}
		d = fresh(t, 10)
		d.Fail(n)
		if w, err := wal.Format(d, 4); w != nil || err != api.ErrIo {
			t.Errorf("doomed with %d: %v, error %d", n, w, err)
		}
		if d.Ops() != n {
			t.Errorf("doomed with %d: %d requests", n, d.Ops())
		}
		w, err := wal.Format(d, 4)
		says(t, "Format again", err, api.OK)
		tells(t, "Format again", w, state{nil}, 3, 1, false)
	}
	d := fresh(t, 10)
	d.Arm(len(want))
	w, err := wal.Format(d, 4)
	says(t, "Format", err, api.OK)
	tells(t, "Format", w, state{nil}, 3, 1, false)
}

// P4.1, P4.5: the power goes at each place of a Format: there is no log then, or the new one.
func TestFormatCrashes(t *testing.T) {
	for n := range 7 {
		d := fresh(t, 10)
		d.Arm(n)
		wal.Format(d, 4)
		for _, keep := range patterns(len(d.Pending())) {
			c := d.Copy()
			c.Crash(keep)
			w, err := wal.Open(c)
			if n == 6 && keep[0] {
				says(t, "Open", err, api.OK)
				tells(t, "Open", w, state{nil}, 3, 2, false)
				continue
			}
			if w != nil || err != api.ErrWal {
				t.Errorf("%d, %v: %v, error %d", n, keep, w, err)
			}
		}
	}
}

// P4.3, P4.5: each write and each sync of a call may be refused: what is told is as it was, the log is broken, and a log that is opened is as it was, or the call is done whole.
func TestEveryRefusal(t *testing.T) {
	for _, from := range begins() {
		for _, c := range calls() {
			if c.what == "Open" {
				continue
			}
			want := c.want(headNow(t, from(t)))
			for n := range want {
				w := from(t)
				d, was, turn, left := w.Disk(), lasts(t, w), int(w.Turn()), w.Left()
				d.Fail(n)
				_, err := c.do(w)
				says(t, c.what, err, api.ErrIo)
				tells(t, "refused", w, was, left, turn, true)
				ops, queue := d.Ops(), d.Pending()
				says(t, "Append", w.Append(nil), api.ErrIo)
				says(t, "Append", w.Append(make([]byte, api.MaxTx+1)), api.ErrIo)
				says(t, "Checkpoint", w.Checkpoint(data(3, 3)), api.ErrIo)
				tells(t, "broken", w, was, left, turn, true)
				if d.Ops() != ops || !slices.Equal(d.Pending(), queue) || w.Disk() != d {
					t.Errorf("%s, %d: something was asked of the disk by a broken log", c.what, n)
				}
				finds, next := was, turn+1
				if n == len(want)-1 { // the head stands in the queue, and is read
					finds, next = c.makes(was), turn+2
				}
				tells(t, "opened", opened(t, d), finds, finds.room(16), next, false)
				tells(t, "the broken one", w, was, left, turn, true)
			}
		}
	}
}

// P4.5: the power goes at each place of each call, with each answer to what the queue keeps: Open finds what was told last, or the call done whole; and what it tells, no crash takes back.
func TestEveryCrash(t *testing.T) {
	for _, from := range begins() {
		for _, c := range calls() {
			for n := range c.want(headNow(t, from(t))) {
				w := from(t)
				d, was := w.Disk(), lasts(t, w)
				d.Arm(n)
				_, err := c.do(w)
				says(t, c.what, err, api.ErrDead)
				if c.what != "Open" {
					tells(t, "no power", w, was, was.room(16), int(w.Turn()), true)
					says(t, "broken", w.Append(nil), api.ErrIo)
				}
				for _, keep := range patterns(len(d.Pending())) {
					e := d.Copy()
					e.Crash(keep)
					foundAnew(t, c.what, e, was, c.makes(was))
				}
			}
		}
	}
}

// foundAnew opens a disk on which one of two states is to be found, and loses the power once more, at each place of Open, and behind it.
func foundAnew(t *testing.T, what string, d *disk.Disk, was, now state) {
	t.Helper()
	for n := range 3 {
		c := d.Copy()
		c.Arm(n)
		w, err := wal.Open(c)
		var told state
		if n < 2 {
			says(t, "Open", err, api.ErrDead)
		} else {
			says(t, "Open", err, api.OK)
			if told = lasts(t, w); !same(told, was) && !same(told, now) {
				t.Fatalf("%s: %v; neither %v nor %v", what, told, was, now)
			}
		}
		for _, keep := range patterns(len(c.Pending())) {
			e := c.Copy()
			e.Crash(keep)
			again := lasts(t, opened(t, e))
			if n < 2 && !same(again, was) && !same(again, now) {
				t.Fatalf("%s, opened again: %v; neither %v nor %v", what, again, was, now)
			}
			if n == 2 && !same(again, told) {
				t.Fatalf("%s: %v was told, %v is found", what, told, again)
			}
		}
	}
}

// P4.5: what was told as done lasts, whatever is lost: nothing of it waits in the queue.
func TestDoneLasts(t *testing.T) {
	for _, from := range begins() {
		for _, c := range calls() {
			w, err := c.do(from(t))
			says(t, c.what, err, api.OK)
			if len(w.Disk().Pending()) != 0 {
				t.Errorf("%s: %v waits", c.what, w.Disk().Pending())
			}
			told, turn := lasts(t, w), int(w.Turn())
			if want := c.makes(lasts(t, from(t))); !same(told, want) {
				t.Errorf("%s: %v, not %v", c.what, told, want)
			}
			w.Disk().Crash(nil)
			tells(t, c.what, opened(t, w.Disk()), told, told.room(16), turn+1, false)
		}
	}
}

// P4.5: sheets that no head speaks of are as if they were not there: whatever stands behind the sheets, and on the other side, is neither told nor in the way.
func TestSheetsOfNoHead(t *testing.T) {
	for _, from := range begins() {
		for _, c := range calls() {
			w := from(t)
			d, was, h := w.Disk(), lasts(t, w), headNow(t, w)
			for i := 2; i < d.Len(); i++ {
				if at := i - int(2+h.side*h.area); at < 0 || at >= int(h.used) {
					lay(t, d, i, saidSheet(data(60, i))...)
				}
			}
			turn := int(w.Turn())
			w = opened(t, d)
			tells(t, "Open", w, was, was.room(16), turn+1, false)
			w, err := c.do(w)
			says(t, c.what, err, api.OK)
			now := c.makes(was)
			tells(t, c.what, w, now, now.room(16), turn+2, false)
			tells(t, "Open", opened(t, d), now, now.room(16), turn+3, false)
		}
	}
}

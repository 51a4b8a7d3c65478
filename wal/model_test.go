package wal_test

import (
	"testing"

	"tallyhouse/api"
	"tallyhouse/disk"
	"tallyhouse/wal"
)

// draw is numbers that look like chance and are the same at each run.
type draw uint64

func (x *draw) below(n int) int {
	*x = *x*6364136223846793005 + 1442695040888963407
	return int(uint64(*x)>>33) % n
}

// run is a log, what it is to tell, and what else may be found when it is opened.
type run struct {
	w      *wal.Wal
	d      *disk.Disk
	area   int
	told   state
	maybe  state // a call that was under way, done whole; nil if there is none
	turn   int
	broken bool
}

// put is an Append or a Checkpoint of bytes that are drawn, held against what the chapter says.
func (r *run) put(t *testing.T, x *draw) {
	t.Helper()
	b := data(x.below(64*r.area), x.below(256))
	now, room, do := state{b}, r.area, r.w.Checkpoint
	if x.below(4) > 0 {
		b = data(x.below(150), x.below(256))
		now, room, do = r.told.with(b), r.told.room(r.area), r.w.Append
	}
	err := do(b)
	switch {
	case r.broken:
		says(t, "broken", err, api.ErrIo)
	case len(saidSheet(b)) > room:
		says(t, "no room", err, api.ErrFull)
	case err == api.OK:
		r.told, r.turn = now, r.turn+1
	default:
		if err != api.ErrIo && err != api.ErrDead {
			t.Errorf("error %d", err)
		}
		r.broken, r.maybe = true, now
	}
	tells(t, "the log", r.w, r.told, r.told.room(r.area), r.turn, r.broken)
}

// open opens the log till the disk lets it, and holds what is found against what may be.
func (r *run) open(t *testing.T, x *draw) {
	t.Helper()
	for {
		if r.d.Dead() {
			r.crash(x)
		}
		w, err := wal.Open(r.d)
		if err == api.OK {
			r.w = w
			break
		}
		if err != api.ErrIo && err != api.ErrDead {
			t.Fatalf("Open: error %d", err)
		}
	}
	found := lasts(t, r.w)
	if !same(found, r.told) && (r.maybe == nil || !same(found, r.maybe)) {
		t.Fatalf("found %v; neither %v nor %v", found, r.told, r.maybe)
	}
	if int(r.w.Turn()) <= r.turn {
		t.Errorf("Turn %d, not above %d", r.w.Turn(), r.turn)
	}
	r.told, r.maybe, r.turn, r.broken = found, nil, int(r.w.Turn()), false
}

// crash loses what is drawn.
func (r *run) crash(x *draw) {
	keep := make([]bool, len(r.d.Pending()))
	rare := 1 + x.below(4)
	for i := range keep {
		keep[i] = x.below(rare) == 0
	}
	r.d.Crash(keep)
}

// P4.2 to P4.5: long runs, in which the disk refuses, and the power goes, at places that are drawn.
func TestLongRuns(t *testing.T) {
	for seed := range 200 {
		x := draw(seed)
		area := api.MinArea + x.below(12)
		r := run{w: formatted(t, area), area: area, told: state{nil}, turn: 1}
		r.d = r.w.Disk()
		for range 150 {
			switch x.below(12) {
			case 0:
				r.d.Arm(x.below(12) - 1)
			case 1:
				r.d.Fail(x.below(12) - 1)
			case 2:
				r.crash(&x)
				r.open(t, &x)
			case 3:
				r.open(t, &x)
			default:
				r.put(t, &x)
			}
		}
		if t.Failed() {
			t.Fatalf("seed %d", seed)
		}
	}
}

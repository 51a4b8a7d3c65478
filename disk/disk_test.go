package disk_test

import (
	"math"
	"slices"
	"testing"

	"tallyhouse/api"
	"tallyhouse/disk"
)

// block is a block that is told by its number, at both of its ends; 0 is noughts.
func block(n int) api.Block {
	var b api.Block
	b[0], b[31], b[63] = byte(n), byte(n>>8), byte(n)
	return b
}

// fresh is a new disk of so many sectors.
func fresh(t *testing.T, sectors int) *disk.Disk {
	t.Helper()
	d, err := disk.New(sectors)
	if err != api.OK || d == nil {
		t.Fatalf("New(%d): %v, error %d", sectors, d, err)
	}
	return d
}

// says fails the test where a call did not answer that error.
func says(t *testing.T, what string, got, want api.Errno) {
	t.Helper()
	if got != want {
		t.Errorf("%s: error %d, not %d", what, got, want)
	}
}

// has fails the test where a sector does not read as that block, or is refused otherwise.
func has(t *testing.T, what string, d *disk.Disk, i int, want api.Block, errno api.Errno) {
	t.Helper()
	b, err := d.Read(i)
	if b != want || err != errno {
		t.Errorf("%s: Read(%d): %v, error %d; not %v, error %d", what, i, b, err, want, errno)
	}
}

// waits fails the test where the queue's writes are not of these sectors.
func waits(t *testing.T, what string, d *disk.Disk, want ...int) {
	t.Helper()
	if got := d.Pending(); !slices.Equal(got, want) {
		t.Errorf("%s: Pending %v, not %v", what, got, want)
	}
}

// put writes the block of a number, which must go well.
func put(t *testing.T, d *disk.Disk, i, n int) {
	t.Helper()
	if err := d.Write(i, block(n)); err != api.OK {
		t.Fatalf("Write(%d): error %d", i, err)
	}
}

// read is what all sectors read as; the reads go to a copy, so that they count for nothing.
func read(t *testing.T, d *disk.Disk) []api.Block {
	t.Helper()
	c := d.Copy()
	says(t, "Arm of a copy", c.Arm(-1), api.OK)
	says(t, "Fail of a copy", c.Fail(-1), api.OK)
	out := make([]api.Block, c.Len())
	for i := range out {
		b, err := c.Read(i)
		if err != api.OK {
			t.Fatalf("Read(%d): error %d", i, err)
		}
		out[i] = b
	}
	return out
}

// P2.1 to P2.5: the chapter's examples, one behind the other on one disk.
func TestExamples(t *testing.T) {
	x, y, z, none := block(1), block(2), block(3), api.Block{}
	d := fresh(t, 10)
	for i, w := range []struct {
		sector int
		block  api.Block
	}{{0, x}, {0, y}, {1, x}, {2, x}, {3, x}, {4, x}} {
		if err := d.Write(w.sector, w.block); err != api.OK {
			t.Errorf("write %d: error %d", i, err)
		}
	}
	waits(t, "six writes", d, 0, 0, 1, 2, 3, 4)

	says(t, "Crash", d.Crash([]bool{false, false, false, false, true}), api.OK)
	has(t, "four places ahead", d, 0, x, api.OK)
	has(t, "lost", d, 1, none, api.OK)
	has(t, "kept", d, 3, x, api.OK)

	says(t, "Write", d.Write(1, y), api.OK)
	says(t, "Sync", d.Sync(), api.OK)
	says(t, "Write", d.Write(1, z), api.OK)
	says(t, "Crash", d.Crash(nil), api.OK)
	has(t, "synced", d, 1, y, api.OK)

	says(t, "Fail", d.Fail(0), api.OK)
	says(t, "Sync that is doomed", d.Sync(), api.ErrIo)
	says(t, "Sync", d.Sync(), api.OK)
	says(t, "Arm", d.Arm(0), api.OK)
	says(t, "Write that is armed", d.Write(1, z), api.ErrDead)
	has(t, "no power", d, 1, none, api.ErrDead)
	if !d.Dead() {
		t.Error("there is power")
	}

	says(t, "Crash", d.Crash(nil), api.OK)
	says(t, "Write(10)", d.Write(10, x), api.ErrArg)
	if e, err := disk.New(2049); e != nil || err != api.ErrArg {
		t.Errorf("New(2049): %v, error %d", e, err)
	}
}

// P2.1: New at its edges.
func TestNew(t *testing.T) {
	for _, n := range []int{1, 2, 10, 2047, api.MostSectors} {
		d := fresh(t, n)
		if d.Len() != n || d.Dead() || d.Ops() != 0 {
			t.Errorf("New(%d): Len %d, Dead %v, Ops %d", n, d.Len(), d.Dead(), d.Ops())
		}
		waits(t, "new", d)
		for i := range n {
			has(t, "new", d, i, api.Block{}, api.OK)
		}
		for range 20 {
			says(t, "Write of a new disk", d.Write(n-1, block(7)), api.OK)
			says(t, "Sync of a new disk", d.Sync(), api.OK)
		}
	}
	for _, n := range []int{math.MinInt, -1, 0, api.MostSectors + 1, math.MaxInt} {
		if d, err := disk.New(n); d != nil || err != api.ErrArg {
			t.Errorf("New(%d): %v, error %d", n, d, err)
		}
	}
}

// P2.1, R5: two disks have nothing in common, and Len stays what it was.
func TestDisksApart(t *testing.T) {
	one, two := fresh(t, 3), fresh(t, 3)
	put(t, one, 1, 5)
	says(t, "Sync", one.Sync(), api.OK)
	put(t, one, 2, 6)
	says(t, "Arm", one.Arm(0), api.OK)
	says(t, "Sync", one.Sync(), api.ErrDead)
	if two.Dead() || two.Ops() != 0 || one.Len() != 3 || two.Len() != 3 {
		t.Errorf("the other one: Dead %v, Ops %d; Len %d, %d", two.Dead(), two.Ops(), one.Len(), two.Len())
	}
	waits(t, "the other one", two)
	for i := range 3 {
		has(t, "the other one", two, i, api.Block{}, api.OK)
	}
}

// P2.2: a sector reads as the last write of it in the queue; a block is taken whole.
func TestReadQueued(t *testing.T) {
	d := fresh(t, 3)
	var whole api.Block
	for i := range whole {
		whole[i] = byte(i + 1)
	}
	says(t, "Write", d.Write(2, whole), api.OK)
	has(t, "queued", d, 2, whole, api.OK)
	put(t, d, 0, 1)
	put(t, d, 0, 2)
	put(t, d, 1, 3)
	has(t, "written twice", d, 0, block(2), api.OK)
	has(t, "written once", d, 1, block(3), api.OK)
	put(t, d, 0, 1)
	has(t, "written again", d, 0, block(1), api.OK)
	put(t, d, 0, 0)
	has(t, "noughts", d, 0, api.Block{}, api.OK)
	waits(t, "read", d, 2, 0, 0, 1, 0, 0)
}

// P2.2: Sync does all of the queue, in order, and leaves what was read.
func TestSync(t *testing.T) {
	d := fresh(t, 4)
	says(t, "Sync of nothing", d.Sync(), api.OK)
	for i := range 40 {
		put(t, d, (i*i)%3, i+1)
	}
	was := read(t, d)
	says(t, "Sync", d.Sync(), api.OK)
	waits(t, "synced", d)
	says(t, "Crash", d.Crash(nil), api.OK)
	if got := read(t, d); !slices.Equal(got, was) {
		t.Errorf("behind a sync and a crash: %v, not %v", got, was)
	}
	has(t, "the last one", d, 0, block(40), api.OK)
	has(t, "never written", d, 3, api.Block{}, api.OK)
}

// P2.2, R3: the memory of what is read and written is nobody else's.
func TestBlocksAreValues(t *testing.T) {
	d := fresh(t, 1)
	b := block(9)
	says(t, "Write", d.Write(0, b), api.OK)
	b[0] = 77
	got, _ := d.Read(0)
	got[0] = 78
	has(t, "changed outside", d, 0, block(9), api.OK)
}

// P2.2: of a sector that there is not: ErrArg; it is no request, so nothing counts on.
func TestNoSuchSector(t *testing.T) {
	d := fresh(t, 10)
	put(t, d, 9, 1)
	says(t, "Arm", d.Arm(0), api.OK)
	says(t, "Fail", d.Fail(0), api.OK)
	for _, i := range []int{math.MinInt, -1, 10, 11, api.MostSectors, math.MaxInt} {
		has(t, "no sector", d, i, api.Block{}, api.ErrArg)
		says(t, "Write of no sector", d.Write(i, block(2)), api.ErrArg)
	}
	if d.Dead() || d.Ops() != 1 {
		t.Errorf("Dead %v, Ops %d", d.Dead(), d.Ops())
	}
	waits(t, "no sector", d, 9)
	has(t, "still doomed", d, 9, api.Block{}, api.ErrIo)
	says(t, "still armed", d.Write(9, block(2)), api.ErrDead)
}

// P2.2, P2.4: without power all is ErrDead, ahead of ErrArg, and nothing changes.
func TestWithoutPower(t *testing.T) {
	d := fresh(t, 4)
	put(t, d, 3, 1)
	put(t, d, 1, 2)
	says(t, "Arm", d.Arm(0), api.OK)
	says(t, "Sync", d.Sync(), api.ErrDead)
	for _, i := range []int{math.MinInt, -1, 0, 3, 4, math.MaxInt} {
		has(t, "no power", d, i, api.Block{}, api.ErrDead)
		says(t, "Write", d.Write(i, block(3)), api.ErrDead)
		says(t, "Sync", d.Sync(), api.ErrDead)
		says(t, "Arm", d.Arm(i), api.ErrDead)
		says(t, "Fail", d.Fail(i), api.ErrDead)
	}
	if !d.Dead() || d.Ops() != 2 || d.Len() != 4 {
		t.Errorf("Dead %v, Ops %d, Len %d", d.Dead(), d.Ops(), d.Len())
	}
	waits(t, "no power", d, 3, 1)
	says(t, "Crash", d.Crash([]bool{true, true}), api.OK)
	has(t, "kept", d, 3, block(1), api.OK)
	has(t, "kept", d, 1, block(2), api.OK)
	has(t, "refused", d, 0, api.Block{}, api.OK)
}

// P2.3: Pending is in order, with all that were asked twice, and is memory of its own.
func TestPending(t *testing.T) {
	d := fresh(t, 5)
	waits(t, "nothing", d)
	for _, i := range []int{4, 0, 4, 4, 2} {
		put(t, d, i, 1)
	}
	got := d.Pending()
	if !slices.Equal(got, []int{4, 0, 4, 4, 2}) {
		t.Fatalf("Pending: %v", got)
	}
	for i := range got {
		got[i] = 3
	}
	_ = append(got, 1)
	waits(t, "an answer was changed", d, 4, 0, 4, 4, 2)
	put(t, d, 1, 1)
	waits(t, "one more", d, 4, 0, 4, 4, 2, 1)
	if !slices.Equal(got, []int{3, 3, 3, 3, 3}) {
		t.Errorf("an answer changes: %v", got)
	}
	says(t, "Sync", d.Sync(), api.OK)
	waits(t, "synced", d)
}

// P2.4: armed with n, n more Writes go well, Reads count for nothing, and at the next Write or Sync the power goes.
func TestArm(t *testing.T) {
	for n := range 6 {
		for _, last := range requests()[1:] {
			d := fresh(t, 2)
			says(t, "Arm", d.Arm(n), api.OK)
			for i := range n {
				has(t, "armed", d, 0, block(i), api.OK)
				put(t, d, 0, i+1)
			}
			has(t, "armed with 0", d, 0, block(n), api.OK)
			if d.Dead() {
				t.Errorf("armed with %d: the power has gone early", n)
			}
			pending := d.Pending()
			says(t, "the power goes", last(d), api.ErrDead)
			if !d.Dead() || d.Ops() != 2*n+1 {
				t.Errorf("armed with %d: Dead %v, Ops %d", n, d.Dead(), d.Ops())
			}
			waits(t, "the power goes", d, pending...)
		}
	}
}

// P2.4: Syncs count as Writes do.
func TestArmCountsSyncs(t *testing.T) {
	d := fresh(t, 1)
	says(t, "Arm", d.Arm(3), api.OK)
	says(t, "Sync", d.Sync(), api.OK)
	put(t, d, 0, 1)
	says(t, "Sync", d.Sync(), api.OK)
	says(t, "Write", d.Write(0, block(2)), api.ErrDead)
	if d.Ops() != 3 {
		t.Errorf("Ops %d", d.Ops())
	}
}

// P2.4: doomed with n, n more requests of all kinds go by, the next one fails, and it is doomed no more.
func TestFail(t *testing.T) {
	for n := range 7 {
		for _, last := range requests() {
			d := fresh(t, 2)
			says(t, "Fail", d.Fail(n), api.OK)
			for i := range n {
				says(t, "goes by", requests()[i%3](d), api.OK)
			}
			was, pending, ops := read(t, d), d.Pending(), d.Ops()
			says(t, "fails", last(d), api.ErrIo)
			if got := read(t, d); !slices.Equal(got, was) || d.Ops() != ops || d.Dead() {
				t.Errorf("doomed with %d: a failure left its mark", n)
			}
			waits(t, "failed", d, pending...)
			for i := range 9 {
				says(t, "doomed no more", requests()[i%3](d), api.OK)
			}
		}
	}
}

// requests is one of each kind, of a sector that each disk of two has.
func requests() []func(*disk.Disk) api.Errno {
	return []func(*disk.Disk) api.Errno{
		func(d *disk.Disk) api.Errno { _, err := d.Read(1); return err },
		func(d *disk.Disk) api.Errno { return d.Write(1, block(4)) },
		func(d *disk.Disk) api.Errno { return d.Sync() },
	}
}

// P2.4: what is set later stands in the place of what was; below 0 it is set no more.
func TestSetAnew(t *testing.T) {
	for _, n := range []int{-1, -2, math.MinInt} {
		d := fresh(t, 1)
		says(t, "Arm", d.Arm(0), api.OK)
		says(t, "Arm", d.Arm(n), api.OK)
		says(t, "Fail", d.Fail(0), api.OK)
		says(t, "Fail", d.Fail(n), api.OK)
		for range 10 {
			put(t, d, 0, 1)
			says(t, "Sync", d.Sync(), api.OK)
			has(t, "neither", d, 0, block(1), api.OK)
		}
	}
	d := fresh(t, 1)
	says(t, "Arm", d.Arm(5), api.OK)
	says(t, "Fail", d.Fail(0), api.OK)
	says(t, "Fail", d.Fail(1), api.OK)
	says(t, "Arm", d.Arm(1), api.OK)
	put(t, d, 0, 1)
	has(t, "doomed with 0", d, 0, api.Block{}, api.ErrIo)
	says(t, "armed with 0", d.Sync(), api.ErrDead)

	d = fresh(t, 1)
	says(t, "Arm", d.Arm(math.MaxInt), api.OK)
	says(t, "Fail", d.Fail(math.MaxInt), api.OK)
	for range 10 {
		put(t, d, 0, 1)
	}
	if d.Dead() || d.Ops() != 10 {
		t.Errorf("Dead %v, Ops %d", d.Dead(), d.Ops())
	}
}

// P2.4: Arm and Fail are set on their own: neither undoes the other one.
func TestArmAndFailApart(t *testing.T) {
	d := fresh(t, 1)
	says(t, "Arm", d.Arm(0), api.OK)
	says(t, "Fail", d.Fail(-1), api.OK)
	says(t, "still armed", d.Sync(), api.ErrDead)
	d = fresh(t, 1)
	says(t, "Fail", d.Fail(0), api.OK)
	says(t, "Arm", d.Arm(-1), api.OK)
	says(t, "still doomed", d.Sync(), api.ErrIo)
}

// P2.4: armed and doomed at once: the power goes at a Write or a Sync; a Read fails; what fails does not go well.
func TestArmedAndDoomed(t *testing.T) {
	for k, want := range []api.Errno{api.ErrIo, api.ErrDead, api.ErrDead} {
		d := fresh(t, 2)
		says(t, "Arm", d.Arm(0), api.OK)
		says(t, "Fail", d.Fail(0), api.OK)
		says(t, "both", requests()[k](d), want)
		if d.Dead() != (want == api.ErrDead) || d.Ops() != 0 {
			t.Errorf("%d: Dead %v, Ops %d", k, d.Dead(), d.Ops())
		}
		waits(t, "both", d)
		says(t, "Crash", d.Crash(nil), api.OK)
		for i := range 6 {
			says(t, "neither", requests()[i%3](d), api.OK)
		}
	}
	d := fresh(t, 2)
	says(t, "Arm", d.Arm(1), api.OK)
	says(t, "Fail", d.Fail(0), api.OK)
	says(t, "fails", d.Write(0, block(1)), api.ErrIo)
	says(t, "the one that goes well", d.Write(0, block(2)), api.OK)
	says(t, "the power goes", d.Write(0, block(3)), api.ErrDead)
	waits(t, "armed and doomed", d, 0)
}

// P2.5: behind a crash there is power, the queue is empty, and nothing is armed or doomed; with power, too.
func TestCrashMakesAnew(t *testing.T) {
	for _, dead := range []bool{false, true} {
		d := fresh(t, 2)
		put(t, d, 1, 4)
		says(t, "Arm", d.Arm(0), api.OK)
		says(t, "Fail", d.Fail(0), api.OK)
		if dead {
			says(t, "Sync", d.Sync(), api.ErrDead)
		}
		says(t, "Crash", d.Crash(nil), api.OK)
		if d.Dead() || d.Len() != 2 || d.Ops() != 1 {
			t.Errorf("Dead %v, Len %d, Ops %d", d.Dead(), d.Len(), d.Ops())
		}
		waits(t, "crashed", d)
		has(t, "lost", d, 1, api.Block{}, api.OK)
		for i := range 6 {
			says(t, "neither", requests()[i%3](d), api.OK)
		}
	}
}

// P2.5: answers that are too few are false; those that no write has say nothing.
func TestCrashAnswers(t *testing.T) {
	for i, q := range []struct {
		keep []bool
		want []int
	}{
		{nil, []int{0, 0, 0, 0, 0, 0}},
		{[]bool{}, []int{0, 0, 0, 0, 0, 0}},
		{[]bool{true}, []int{1, 0, 0, 0, 0, 0}},
		{[]bool{false, true, false}, []int{0, 2, 0, 0, 0, 0}},
		{[]bool{false, false, false, true}, []int{0, 0, 0, 4, 0, 0}},
		{[]bool{false, false, false, false, true}, []int{1, 0, 0, 0, 5, 0}},
		{[]bool{false, false, false, false, false, true}, []int{1, 2, 0, 0, 0, 6}},
		{[]bool{false, false, false, false, false, true, true, true, true, true, true}, []int{1, 2, 0, 0, 0, 6}},
		{[]bool{false, false, false, false, false, false, true, true, true, true, true}, []int{0, 0, 0, 0, 0, 0}},
		{[]bool{false, false, true, false, false, true, false, true}, []int{1, 2, 3, 0, 0, 6}},
		{[]bool{true, true, true, true, true, true, true}, []int{1, 2, 3, 4, 5, 6}},
	} {
		d := fresh(t, 6)
		for k := range 6 {
			put(t, d, k, k+1)
		}
		was := slices.Clone(q.keep)
		says(t, "Crash", d.Crash(q.keep), api.OK)
		for k, n := range q.want {
			if b, err := d.Read(k); b != block(n) || err != api.OK {
				t.Errorf("%d: sector %d: %v, error %d", i, k, b, err)
			}
		}
		if !slices.Equal(q.keep, was) {
			t.Errorf("%d: the answers were changed: %v", i, q.keep)
		}
	}
}

// P2.5, R3: answers in the room behind the list's end are none.
func TestCrashSeesNoRoom(t *testing.T) {
	room := []bool{false, true, true}
	d := fresh(t, 3)
	for k := range 3 {
		put(t, d, k, k+1)
	}
	says(t, "Crash", d.Crash(room[:1]), api.OK)
	for k := range 3 {
		has(t, "lost", d, k, api.Block{}, api.OK)
	}
}

// P2.6: Ops counts the requests that went well, over crashes too, and no other calls.
func TestOps(t *testing.T) {
	d := fresh(t, 2)
	for i := range 9 {
		says(t, "request", requests()[i%3](d), api.OK)
		if d.Ops() != i+1 {
			t.Errorf("Ops %d, not %d", d.Ops(), i+1)
		}
	}
	d.Read(2)
	d.Write(-1, block(1))
	d.Fail(0)
	d.Sync()
	d.Arm(0)
	d.Sync()
	d.Write(0, block(1))
	d.Read(0)
	d.Pending()
	d.Copy()
	d.Len()
	if d.Ops() != 9 {
		t.Errorf("Ops %d, not 9", d.Ops())
	}
	says(t, "Crash", d.Crash(nil), api.OK)
	if d.Ops() != 9 {
		t.Errorf("behind a crash: Ops %d, not 9", d.Ops())
	}
	says(t, "Sync", d.Sync(), api.OK)
	if d.Ops() != 10 {
		t.Errorf("Ops %d, not 10", d.Ops())
	}
}

// P2.6: a Copy is the same disk, in all that can be asked.
func TestCopyIsTheSame(t *testing.T) {
	d := fresh(t, 3)
	put(t, d, 0, 1)
	says(t, "Sync", d.Sync(), api.OK)
	put(t, d, 1, 2)
	put(t, d, 0, 3)
	says(t, "Arm", d.Arm(1), api.OK)
	says(t, "Fail", d.Fail(1), api.OK)
	c := d.Copy()
	if c == d || c.Len() != 3 || c.Ops() != 4 || c.Dead() {
		t.Errorf("a copy: Len %d, Ops %d, Dead %v", c.Len(), c.Ops(), c.Dead())
	}
	waits(t, "a copy", c, 1, 0)
	for _, e := range []*disk.Disk{d, c} {
		says(t, "Write", e.Write(2, block(4)), api.OK)
		has(t, "fails", e, 2, api.Block{}, api.ErrIo)
		has(t, "queued", e, 0, block(3), api.OK)
		says(t, "Write", e.Write(2, block(5)), api.ErrDead)
	}
	dead := c.Copy()
	if !dead.Dead() || dead.Ops() != 6 {
		t.Errorf("a copy of a dead one: Dead %v, Ops %d", dead.Dead(), dead.Ops())
	}
	waits(t, "a copy of a dead one", dead, 1, 0, 2)
	says(t, "Crash", dead.Crash([]bool{true, false, true}), api.OK)
	for i, n := range []int{1, 2, 4} {
		has(t, "a copy of a dead one", dead, i, block(n), api.OK)
	}
}

// P2.6: a Copy and its original go ways of their own.
func TestCopyGoesItsWay(t *testing.T) {
	for _, swap := range []bool{false, true} {
		d := fresh(t, 3)
		put(t, d, 0, 1)
		says(t, "Sync", d.Sync(), api.OK)
		for range 5 { // five writes leave room behind the queue's end
			put(t, d, 1, 2)
		}
		one, two := d, d.Copy()
		if swap {
			one, two = two, one
		}
		put(t, one, 0, 7)
		put(t, two, 2, 8)
		waits(t, "one", one, 1, 1, 1, 1, 1, 0)
		waits(t, "two", two, 1, 1, 1, 1, 1, 2)
		has(t, "one", one, 2, api.Block{}, api.OK)
		has(t, "two", two, 2, block(8), api.OK)
		has(t, "two", two, 2, block(8), api.OK)
		says(t, "Sync", one.Sync(), api.OK)
		says(t, "Crash", two.Crash(nil), api.OK)
		for i, n := range []int{7, 2, 0} {
			has(t, "one", one, i, block(n), api.OK)
		}
		for i, n := range []int{1, 0, 0} {
			has(t, "two", two, i, block(n), api.OK)
		}
		says(t, "Arm", one.Arm(0), api.OK)
		says(t, "Fail", two.Fail(0), api.OK)
		says(t, "one", one.Sync(), api.ErrDead)
		says(t, "two", two.Sync(), api.ErrIo)
		says(t, "two", two.Sync(), api.OK)
		if !one.Dead() || two.Dead() || one.Ops() != 13 || two.Ops() != 14 {
			t.Errorf("Dead %v, %v; Ops %d, %d", one.Dead(), two.Dead(), one.Ops(), two.Ops())
		}
	}
}

// The answers of nil: ErrNil where there is an Errno, else nothing.
func TestNilDisk(t *testing.T) {
	var d *disk.Disk
	for _, i := range []int{math.MinInt, -1, 0, 1, math.MaxInt} {
		has(t, "nil", d, i, api.Block{}, api.ErrNil)
		says(t, "Write", d.Write(i, block(1)), api.ErrNil)
		says(t, "Arm", d.Arm(i), api.ErrNil)
		says(t, "Fail", d.Fail(i), api.ErrNil)
	}
	says(t, "Sync", d.Sync(), api.ErrNil)
	says(t, "Crash", d.Crash(nil), api.ErrNil)
	says(t, "Crash", d.Crash([]bool{true}), api.ErrNil)
	if d.Len() != 0 || len(d.Pending()) != 0 || d.Dead() || d.Ops() != 0 || d.Copy() != nil {
		t.Errorf("nil: Len %d, Pending %v, Dead %v, Ops %d, Copy %v", d.Len(), d.Pending(), d.Dead(), d.Ops(), d.Copy())
	}
}

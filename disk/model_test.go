package disk_test

import (
	"slices"
	"testing"

	"tallyhouse/api"
	"tallyhouse/disk"
)

// asked is a write as the model keeps it: by the number of its block.
type asked struct {
	sector, number int
}

// model is a disk as the chapter says it, without a thought of what is quick.
type model struct {
	has           []int
	queue         []asked
	armed, doomed int // below 0: not
	dead          bool
	ops           int
}

func newModel(sectors int) *model {
	return &model{has: make([]int, sectors), armed: -1, doomed: -1}
}

// request is the error of a Read, a Write or a Sync.
func (m *model) request(read bool, sector int) api.Errno {
	if m.dead {
		return api.ErrDead
	}
	if sector < 0 || sector >= len(m.has) {
		return api.ErrArg
	}
	if !read && m.armed == 0 {
		m.dead, m.doomed = true, -1
		return api.ErrDead
	}
	if m.doomed == 0 {
		m.doomed = -1
		return api.ErrIo
	}
	if !read && m.armed > 0 {
		m.armed--
	}
	if m.doomed > 0 {
		m.doomed--
	}
	m.ops++
	return api.OK
}

func (m *model) read(sector int) (int, api.Errno) {
	if err := m.request(true, sector); err != api.OK {
		return 0, err
	}
	n := m.has[sector]
	for _, w := range m.queue {
		if w.sector == sector {
			n = w.number
		}
	}
	return n, api.OK
}

func (m *model) write(sector, number int) api.Errno {
	err := m.request(false, sector)
	if err == api.OK {
		m.queue = append(m.queue, asked{sector, number})
	}
	return err
}

func (m *model) sync() api.Errno {
	err := m.request(false, 0)
	if err == api.OK {
		for _, w := range m.queue {
			m.has[w.sector] = w.number
		}
		m.queue = nil
	}
	return err
}

func (m *model) set(at *int, n int) api.Errno {
	if m.dead {
		return api.ErrDead
	}
	*at = n
	return api.OK
}

// answer is the one of a place: none is false.
func answer(keep []bool, place int) bool {
	return place < len(keep) && keep[place]
}

// crash does a write that is kept, or has one that is kept four places or more behind it.
func (m *model) crash(keep []bool) {
	for i, w := range m.queue {
		done := answer(keep, i)
		for k := i + 4; k < len(m.queue); k++ {
			done = done || answer(keep, k)
		}
		if done {
			m.has[w.sector] = w.number
		}
	}
	m.queue, m.armed, m.doomed, m.dead = nil, -1, -1, false
}

func (m *model) copy() *model {
	c := *m
	c.has, c.queue = slices.Clone(m.has), slices.Clone(m.queue)
	return &c
}

// pair is a disk and its model; what is done to the one is done to the other one.
type pair struct {
	d *disk.Disk
	m *model
}

// alike fails the test where the disk tells otherwise than its model.
func (p pair) alike(t *testing.T, what any) {
	t.Helper()
	pending := p.d.Pending()
	same := len(pending) == len(p.m.queue) && p.d.Ops() == p.m.ops && p.d.Dead() == p.m.dead && p.d.Len() == len(p.m.has)
	for i := range min(len(pending), len(p.m.queue)) {
		same = same && pending[i] == p.m.queue[i].sector
	}
	if !same {
		t.Fatalf("%v: Pending %v, Ops %d, Dead %v, Len %d; not %+v", what, pending, p.d.Ops(), p.d.Dead(), p.d.Len(), *p.m)
	}
}

// step is a call, told to both; it answers whether both answered alike.
type step func(p pair, number int) bool

func reads(i int) step {
	return func(p pair, _ int) bool {
		b, err := p.d.Read(i)
		n, want := p.m.read(i)
		return b == block(n) && err == want
	}
}

func writes(i int) step {
	return func(p pair, number int) bool { return p.d.Write(i, block(number)) == p.m.write(i, number) }
}

func syncs(p pair, _ int) bool { return p.d.Sync() == p.m.sync() }

func arms(n int) step {
	return func(p pair, _ int) bool { return p.d.Arm(n) == p.m.set(&p.m.armed, n) }
}

func fails(n int) step {
	return func(p pair, _ int) bool { return p.d.Fail(n) == p.m.set(&p.m.doomed, n) }
}

func crashes(keep ...bool) step {
	return func(p pair, _ int) bool {
		p.m.crash(keep)
		return p.d.Crash(keep) == api.OK
	}
}

// steps is each kind of call, with the numbers that make a difference on a disk of two sectors.
func steps() []step {
	return []step{
		reads(0), reads(1), reads(2), writes(0), writes(1), writes(-1), syncs,
		arms(-1), arms(0), arms(1), arms(2), fails(-1), fails(0), fails(1), fails(2),
		crashes(), crashes(true), crashes(false, true, true),
	}
}

// P2.2 to P2.6: every run of four calls goes as the model does.
func TestRunsOfCalls(t *testing.T) {
	all := steps()
	var run [4]int
	for i := range len(all) * len(all) * len(all) * len(all) {
		for k := range run {
			run[k], i = i%len(all), i/len(all)
		}
		d, _ := disk.New(2)
		p := pair{d, newModel(2)}
		for k, s := range run {
			if !all[s](p, k+1) {
				t.Fatalf("run %v: call %d is answered otherwise", run, k)
			}
			p.alike(t, run)
		}
		p.m.crash(nil)
		p.d.Crash(nil)
		for s := range 2 {
			if !reads(s)(p, 0) {
				t.Fatalf("run %v: sector %d has something else", run, s)
			}
		}
	}
}

// draw is numbers that look like chance and are the same at each run.
type draw uint64

func (x *draw) below(n int) int {
	*x = *x*6364136223846793005 + 1442695040888963407
	return int(uint64(*x)>>33) % n
}

// anyStep is a call that is drawn; most are Writes, so that queues grow long.
func (x *draw) anyStep(sectors int) step {
	switch x.below(16) {
	case 0, 1, 2:
		return reads(x.below(sectors+2) - 1)
	case 3:
		return syncs
	case 4:
		return arms(x.below(20) - 1)
	case 5:
		return fails(x.below(20) - 1)
	case 6:
		keep := make([]bool, x.below(24))
		rare := 1 + x.below(6)
		for i := range keep {
			keep[i] = x.below(rare) == 0
		}
		return crashes(keep...)
	}
	return writes(x.below(sectors+2) - 1)
}

// P2.2 to P2.6: long runs go as the model does, those of copies that are made on the way, too.
func TestLongRuns(t *testing.T) {
	for seed := range 300 {
		x := draw(seed)
		sectors := 1 + x.below(6)
		d, _ := disk.New(sectors)
		all := []pair{{d, newModel(sectors)}}
		for k := range 400 {
			p := all[x.below(len(all))]
			if !x.anyStep(sectors)(p, k+1) {
				t.Fatalf("seed %d: call %d is answered otherwise", seed, k)
			}
			if len(all) < 3 && x.below(50) == 0 {
				all = append(all, pair{p.d.Copy(), p.m.copy()})
			}
			for _, p := range all {
				p.alike(t, seed)
			}
		}
	}
}

// patterns is all rows of so many answers.
func patterns(n int) [][]bool {
	var out [][]bool
	for bits := range 1 << n {
		keep := make([]bool, n)
		for i := range keep {
			keep[i] = bits>>i&1 == 1
		}
		out = append(out, keep)
	}
	return out
}

// P2.5, P2.7: of a queue of ten writes, each of a sector of its own, at every crash: what was kept is done, a write that is done has all ahead of it done but for three, and none is done behind the last one that was kept.
func TestEveryCrash(t *testing.T) {
	const n = 10
	d := fresh(t, n)
	for i := range n {
		put(t, d, i, i+1)
	}
	for _, keep := range patterns(n) {
		c := d.Copy()
		c.Crash(keep)
		last := n - 1
		for last >= 0 && !keep[last] {
			last--
		}
		lost := 0
		for i, b := range read(t, c) {
			done := b == block(i+1)
			switch {
			case !done && b != api.Block{}:
				t.Fatalf("%v: sector %d has what nobody wrote", keep, i)
			case done != (keep[i] || i <= last-4):
				t.Fatalf("%v: sector %d: done %v", keep, i, done)
			case done && lost > 3:
				t.Fatalf("%v: sector %d is done, %d ahead of it are not", keep, i, lost)
			case !done:
				lost++
			}
		}
	}
}

// P2.5: writes of one sector are done in their order: the last one that is done is what it has.
func TestCrashInOrder(t *testing.T) {
	const n = 9
	d := fresh(t, 2)
	m := newModel(2)
	for i := range n {
		put(t, d, i%2, i+1)
		m.write(i%2, i+1)
	}
	for _, keep := range patterns(n) {
		p := pair{d.Copy(), m.copy()}
		crashes(keep...)(p, 0)
		for s := range 2 {
			if !reads(s)(p, 0) {
				t.Fatalf("%v: sector %d has something else", keep, s)
			}
		}
	}
}

// P2.7: what was synced is lost by no crash.
func TestSyncedLasts(t *testing.T) {
	d := fresh(t, 8)
	for i := range 4 {
		put(t, d, i, i+1)
	}
	says(t, "Sync", d.Sync(), api.OK)
	for i := 4; i < 8; i++ {
		put(t, d, i, i+1)
	}
	says(t, "Arm", d.Arm(0), api.OK)
	says(t, "Write", d.Write(0, block(9)), api.ErrDead)
	for _, keep := range patterns(6) {
		c := d.Copy()
		c.Crash(keep)
		c.Crash(nil)
		for i := range 4 {
			has(t, "synced", c, i, block(i+1), api.OK)
		}
	}
}

// P2.7: what failed left all as it was.
func TestFailureLeavesAll(t *testing.T) {
	for k, r := range requests() {
		d := fresh(t, 3)
		put(t, d, 1, 1)
		says(t, "Sync", d.Sync(), api.OK)
		put(t, d, 1, 2)
		put(t, d, 2, 3)
		says(t, "Arm", d.Arm(2), api.OK)
		same := d.Copy()
		says(t, "Fail", d.Fail(0), api.OK)
		says(t, "fails", r(d), api.ErrIo)
		for i := range 3 {
			if d.Ops() != same.Ops() || !slices.Equal(d.Pending(), same.Pending()) || d.Dead() != same.Dead() {
				t.Errorf("%d: a failure left its mark", k)
			}
			one, two := d.Write(0, block(i+4)), same.Write(0, block(i+4))
			if one != two {
				t.Errorf("%d: write %d: error %d, not %d", k, i, one, two)
			}
		}
		d.Crash([]bool{true})
		same.Crash([]bool{true})
		if !slices.Equal(read(t, d), read(t, same)) {
			t.Errorf("%d: a failure left its mark in the sectors", k)
		}
	}
}

// P2.7: a crash at which all is kept leaves what was read, one at which nothing is kept what sectors have.
func TestCrashAllOrNothing(t *testing.T) {
	for size := range 12 {
		d := fresh(t, 3)
		for i := range 3 {
			put(t, d, i, i+100)
		}
		says(t, "Sync", d.Sync(), api.OK)
		had := read(t, d)
		for i := range size {
			put(t, d, i*i%3, i+1)
		}
		was := read(t, d)
		all, nothing := d.Copy(), d.Copy()
		all.Crash(slices.Repeat([]bool{true}, size))
		nothing.Crash(make([]bool, size))
		if got := read(t, all); !slices.Equal(got, was) {
			t.Errorf("%d writes, all kept: %v, not %v", size, got, was)
		}
		if got := read(t, nothing); !slices.Equal(got, had) {
			t.Errorf("%d writes, nothing kept: %v, not %v", size, got, had)
		}
	}
}

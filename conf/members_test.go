package conf_test

import (
	"math"
	"slices"
	"testing"

	"tallyhouse/api"
	"tallyhouse/conf"
)

// P8.1: ErrConf is 180, and the first answer of each call that answers an Errno; of no other one there is anything.
func TestWrongMembers(t *testing.T) {
	right := of(1, 2, 3)
	for _, q := range wrong() {
		c := of(q.list...)
		if mayBe(q.list) {
			t.Errorf("the model takes %s", q.name)
		}
		if err := conf.Check(c); err != 180 {
			t.Errorf("Check of %s: %d", q.name, err)
		}
		for _, n := range append(strangers(), 1, 2, 3, 4, 5) {
			if conf.Has(c, n) {
				t.Errorf("Has of %s: %d", q.name, n)
			}
			if out, err := conf.Add(c, n); err != 180 || len(out.Members) > 0 {
				t.Errorf("Add of %s, %d: %s %d", q.name, n, said(out.Members), err)
			}
			if out, err := conf.Drop(c, n); err != 180 || len(out.Members) > 0 {
				t.Errorf("Drop of %s, %d: %s %d", q.name, n, said(out.Members), err)
			}
		}
		if conf.Majority(c, append([]int{1, 2, 3, 4, 5}, q.list...)) {
			t.Errorf("Majority of %s", q.name)
		}
		if x := conf.Agreed(c, allAt(q.list, 7)); x != 0 {
			t.Errorf("Agreed of %s: %d", q.name, x)
		}
		if err := conf.Step(c, right); err != 180 {
			t.Errorf("Step from %s: %d", q.name, err)
		}
		if err := conf.Step(right, c); err != 180 {
			t.Errorf("Step to %s: %d", q.name, err)
		}
		if err := conf.Step(c, c); err != 180 {
			t.Errorf("Step from %s to itself: %d", q.name, err)
		}
		if b, err := conf.Encode(c); err != 180 || len(b) > 0 {
			t.Errorf("Encode of %s: %x %d", q.name, b, err)
		}
	}
}

// allAt is a list in which all members and these numbers are that far.
func allAt(list []int, index uint64) []api.Match {
	var out []api.Match
	for _, n := range append([]int{1, 2, 3, 4, 5}, list...) {
		out = append(out, api.Match{Member: n, Index: index})
	}
	return out
}

// P8.1: all members that may be.
func TestMembersThatMayBe(t *testing.T) {
	if len(groups()) != 31 {
		t.Fatal(len(groups()))
	}
	for _, list := range groups() {
		if err := conf.Check(of(list...)); err != api.OK || !mayBe(list) {
			t.Errorf("Check(%s): %d", said(list), err)
		}
	}
}

// P8.1: whatever few numbers they are, they may be just if the model says so, to each call.
func TestWhoMayBe(t *testing.T) {
	one, may := of(3), 0
	for list := range lists([]int{-1, 0, 1, 2, 3, 4, 5, 6, 257}, 5) {
		c, want := of(list...), api.ErrConf
		if mayBe(list) {
			want = api.OK
			may++
		}
		_, failed := conf.Encode(c)
		if err := conf.Check(c); err != want || failed != want {
			t.Fatalf("Check(%s), Encode: %d, %d", said(list), err, failed)
		}
		from, to := conf.Step(c, one), conf.Step(one, c)
		if (from == api.ErrConf) != (want == api.ErrConf) || from != to {
			t.Fatalf("Step of %s and 3: %d, %d", said(list), from, to)
		}
		if conf.Majority(c, list) != (want == api.OK) || conf.Agreed(c, allAt(list, top)) > 0 != (want == api.OK) {
			t.Fatalf("Majority or Agreed of %s", said(list))
		}
		if conf.Has(c, 3) != (want == api.OK && slices.Contains(list, 3)) {
			t.Fatalf("Has(%s, 3)", said(list))
		}
	}
	if may != 31 {
		t.Errorf("%d may be", may)
	}
}

// P8.1: Has tells of each member, and of no other number.
func TestHas(t *testing.T) {
	for _, list := range groups() {
		for n := -300; n <= 300; n++ {
			if conf.Has(of(list...), n) != slices.Contains(list, n) {
				t.Errorf("Has(%s, %d)", said(list), n)
			}
		}
		for _, n := range strangers() {
			if conf.Has(of(list...), n) {
				t.Errorf("Has(%s, %d)", said(list), n)
			}
		}
	}
}

// P8.1: Same is asked of whatever numbers, those that may not be too; their order counts.
func TestSame(t *testing.T) {
	var all [][]int
	for list := range lists([]int{-1, 0, 1, 2, 5, 6}, 3) {
		all = append(all, slices.Clone(list))
	}
	for _, q := range wrong() {
		all = append(all, q.list)
	}
	for _, a := range all {
		for _, b := range all {
			if conf.Same(of(a...), of(b...)) != (said(a) == said(b)) {
				t.Errorf("Same(%s, %s)", said(a), said(b))
			}
		}
	}
	for _, q := range [][2][]int{{{1, 2}, {2, 1}}, {{1}, {257}}, {{1}, {1, 1}}, {{math.MinInt}, {math.MaxInt}}, {{1, 2}, {1, 2, 0}}, {{1 << 32}, {0}}} {
		if conf.Same(of(q[0]...), of(q[1]...)) || conf.Same(of(q[1]...), of(q[0]...)) {
			t.Errorf("Same(%s, %s)", said(q[0]), said(q[1]))
		}
	}
	if !conf.Same(api.Conf{}, api.Conf{Members: []int{}}) || !conf.Same(of(9, 9, -3), of(9, 9, -3)) {
		t.Error("the same is not the same")
	}
}

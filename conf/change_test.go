package conf_test

import (
	"testing"

	"tallyhouse/api"
	"tallyhouse/conf"
)

// P8.3: who is added stands in its place, or is there, or has no number of a member.
func TestAdd(t *testing.T) {
	for _, list := range groups() {
		for _, n := range append(strangers(), 1, 2, 3, 4, 5) {
			out, err := conf.Add(of(list...), n)
			want, wrong := modelAdd(list, n)
			if said(out.Members) != said(want) || err != wrong {
				t.Errorf("Add(%s, %d): %s %d", said(list), n, said(out.Members), err)
			}
		}
	}
}

// P8.3: who is dropped is gone, or was none, or is the only one.
func TestDrop(t *testing.T) {
	for _, list := range groups() {
		for _, n := range append(strangers(), 1, 2, 3, 4, 5) {
			out, err := conf.Drop(of(list...), n)
			want, wrong := modelDrop(list, n)
			if said(out.Members) != said(want) || err != wrong {
				t.Errorf("Drop(%s, %d): %s %d", said(list), n, said(out.Members), err)
			}
		}
	}
}

// P8.3: each place at which one comes or goes, by itself.
func TestAddAndDropAtEachPlace(t *testing.T) {
	for _, q := range []struct {
		small  []int
		member int
		great  []int
	}{
		{[]int{2, 4}, 1, []int{1, 2, 4}},
		{[]int{2, 4}, 3, []int{2, 3, 4}},
		{[]int{2, 4}, 5, []int{2, 4, 5}},
		{[]int{1}, 2, []int{1, 2}},
		{[]int{5}, 4, []int{4, 5}},
		{[]int{1, 2, 3, 4}, 5, []int{1, 2, 3, 4, 5}},
		{[]int{2, 3, 4, 5}, 1, []int{1, 2, 3, 4, 5}},
		{[]int{1, 2, 4, 5}, 3, []int{1, 2, 3, 4, 5}},
	} {
		if out, err := conf.Add(of(q.small...), q.member); said(out.Members) != said(q.great) || err != api.OK {
			t.Errorf("Add(%s, %d): %s %d", said(q.small), q.member, said(out.Members), err)
		}
		if out, err := conf.Drop(of(q.great...), q.member); said(out.Members) != said(q.small) || err != api.OK {
			t.Errorf("Drop(%s, %d): %s %d", said(q.great), q.member, said(out.Members), err)
		}
		if out, err := conf.Add(of(q.great...), q.member); len(out.Members) > 0 || err != api.ErrThere {
			t.Errorf("Add(%s, %d): %s %d", said(q.great), q.member, said(out.Members), err)
		}
		if out, err := conf.Drop(of(q.small...), q.member); len(out.Members) > 0 || err != api.ErrNone {
			t.Errorf("Drop(%s, %d): %s %d", said(q.small), q.member, said(out.Members), err)
		}
	}
}

// P8.3: of all pairs of groups; ErrStep is 181.
func TestStep(t *testing.T) {
	steps := 0
	for _, a := range groups() {
		for _, b := range groups() {
			err := conf.Step(of(a...), of(b...))
			if err != modelStep(a, b) {
				t.Errorf("Step(%s, %s): %d", said(a), said(b), err)
			}
			if err == api.OK {
				steps++
			}
		}
	}
	// Each group itself, and each edge of a cube with five sides, there and back, but those to nobody.
	if steps != 31+2*(80-5) {
		t.Errorf("%d steps", steps)
	}
}

// P8.3: none apart, one more, one less, two, and one for another one.
func TestStepsByHand(t *testing.T) {
	for _, q := range []struct {
		a, b []int
		want api.Errno
	}{
		{[]int{1, 2}, []int{1, 2}, api.OK},
		{[]int{5}, []int{5}, api.OK},
		{[]int{2, 4}, []int{1, 2, 4}, api.OK},
		{[]int{2, 4}, []int{2, 3, 4}, api.OK},
		{[]int{2, 4}, []int{2, 4, 5}, api.OK},
		{[]int{2, 4}, []int{4}, api.OK},
		{[]int{2, 4}, []int{2}, api.OK},
		{[]int{1, 2, 3, 4, 5}, []int{1, 2, 3, 4}, api.OK},
		{[]int{1}, []int{2}, api.ErrStep},
		{[]int{1, 2}, []int{2, 3}, api.ErrStep},
		{[]int{1}, []int{1, 2, 3}, api.ErrStep},
		{[]int{1, 2, 3}, []int{2}, api.ErrStep},
		{[]int{1}, []int{2, 3, 4, 5}, api.ErrStep},
		{[]int{1, 2, 3, 4, 5}, []int{3}, api.ErrStep},
	} {
		if err := conf.Step(of(q.a...), of(q.b...)); err != q.want {
			t.Errorf("Step(%s, %s): %d", said(q.a), said(q.b), err)
		}
	}
}

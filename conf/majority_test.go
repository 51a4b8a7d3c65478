package conf_test

import (
	"math"
	"slices"
	"testing"

	"tallyhouse/api"
	"tallyhouse/conf"
)

// P8.2: each group, with each short list of numbers.
func TestMajority(t *testing.T) {
	for set := range lists([]int{0, 1, 2, 3, 4, 5, 6}, 5) {
		for _, list := range groups() {
			if got, want := conf.Majority(of(list...), set), modelMajority(list, set); got != want {
				t.Fatalf("Majority(%s, %s): %t", said(list), said(set), got)
			}
		}
	}
}

// P8.2: just half is not enough, one more is, however often the others stand there.
func TestMajorityAtHalf(t *testing.T) {
	for _, list := range groups() {
		half := list[:len(list)/2]
		more := list[:len(list)/2+1]
		for _, often := range []int{1, 2, 5, 300} {
			if set := slices.Repeat(half, often); conf.Majority(of(list...), set) {
				t.Errorf("Majority(%s, %d times %s)", said(list), often, said(half))
			}
			if set := slices.Repeat(more, often); !conf.Majority(of(list...), set) {
				t.Errorf("not Majority(%s, %d times %s)", said(list), often, said(more))
			}
		}
		if conf.Majority(of(list...), nil) || conf.Majority(of(list...), []int{}) {
			t.Errorf("Majority(%s, none)", said(list))
		}
	}
}

// P8.2: numbers of none count neither for nor against.
func TestMajorityAmongStrangers(t *testing.T) {
	for _, list := range groups() {
		if conf.Majority(of(list...), strangers()) {
			t.Errorf("Majority(%s, strangers)", said(list))
		}
		for i := range len(list) + 1 {
			set := slices.Concat(strangers(), list[i:], strangers())
			if got := conf.Majority(of(list...), set); got != (2*(len(list)-i) > len(list)) {
				t.Errorf("Majority(%s, %s among strangers): %t", said(list), said(list[i:]), got)
			}
		}
	}
}

// someMatches are parts of lists: each member, and two that are none, at few Indexes.
func someMatches(indexes ...uint64) []api.Match {
	var out []api.Match
	for _, who := range []int{0, 1, 2, 3, 4, 5, 6} {
		for _, index := range indexes {
			out = append(out, api.Match{Member: who, Index: index})
		}
	}
	return out
}

// P8.2: each group, with each short list, in which one may stand more than once or not at all.
func TestAgreed(t *testing.T) {
	for l := range lists(someMatches(0, 3, top), 3) {
		for _, list := range groups() {
			if got, want := conf.Agreed(of(list...), l), modelAgreed(list, l); got != want {
				t.Fatalf("Agreed(%s, %s): %d, not %d", said(list), saidMatches(l), got, want)
			}
		}
	}
}

// fars tells all lists in which each member stands once, at one of these Indexes.
func fars(indexes []uint64, each func(l []api.Match)) {
	for far := range lists(indexes, 5) {
		if len(far) < 5 {
			continue
		}
		var l []api.Match
		for i, index := range far {
			l = append(l, api.Match{Member: i + 1, Index: index})
		}
		each(l)
	}
}

// P8.2: however far each one is, in whatever order it is told, with less of each and with strangers beside it.
func TestAgreedOfAll(t *testing.T) {
	fars([]uint64{0, 1, 2, 1 << 63, top}, func(l []api.Match) {
		var less []api.Match
		for _, m := range l {
			less = append(less, api.Match{Member: m.Member, Index: m.Index / 2})
		}
		for _, n := range strangers() {
			less = append(less, api.Match{Member: n, Index: top})
		}
		turned := slices.Clone(l)
		slices.Reverse(turned)
		for _, list := range groups() {
			want := modelAgreed(list, l)
			for _, told := range [][]api.Match{l, turned, slices.Concat(l, less), slices.Concat(less, turned), slices.Concat(l, less, l)} {
				if got := conf.Agreed(of(list...), told); got != want {
					t.Fatalf("Agreed(%s, %s): %d, not %d", said(list), saidMatches(told), got, want)
				}
			}
		}
	})
}

// P8.2: the Index at which each number of more than half stands, by itself.
func TestAgreedByCount(t *testing.T) {
	l := []api.Match{{Member: 5, Index: 50}, {Member: 3, Index: 30}, {Member: 1, Index: 10}, {Member: 4, Index: 40}, {Member: 2, Index: 20}}
	for _, q := range []struct {
		list []int
		want uint64
	}{
		{[]int{1}, 10}, {[]int{5}, 50}, {[]int{1, 2}, 10}, {[]int{3, 5}, 30}, {[]int{1, 2, 3}, 20}, {[]int{1, 4, 5}, 40},
		{[]int{1, 2, 3, 4}, 20}, {[]int{2, 3, 4, 5}, 30}, {[]int{1, 2, 3, 4, 5}, 30},
	} {
		if got := conf.Agreed(of(q.list...), l); got != q.want {
			t.Errorf("Agreed(%s): %d", said(q.list), got)
		}
		if got := conf.Agreed(of(q.list...), nil); got != 0 {
			t.Errorf("Agreed(%s, none): %d", said(q.list), got)
		}
		if got := conf.Agreed(of(q.list...), []api.Match{}); got != 0 {
			t.Errorf("Agreed(%s, an empty list): %d", said(q.list), got)
		}
	}
}

// R1: long lists are gone over once.
func TestLongLists(t *testing.T) {
	set, l := make([]int, 1<<20), make([]api.Match, 1<<20)
	for i := range set {
		set[i] = 6 + i
		l[i] = api.Match{Member: math.MaxInt - i, Index: top}
	}
	set[len(set)-1], set[0] = 2, 3
	l[len(l)-1], l[0] = api.Match{Member: 2, Index: 9}, api.Match{Member: 3, Index: 8}
	if !conf.Majority(of(1, 2, 3), set) || conf.Majority(of(1, 2, 3, 4), set) {
		t.Error("Majority of a long list")
	}
	if x := conf.Agreed(of(1, 2, 3), l); x != 8 {
		t.Errorf("Agreed of a long list: %d", x)
	}
	if err := conf.Check(of(set...)); err != api.ErrConf {
		t.Errorf("Check of a long list: %d", err)
	}
}

package value_test

import (
	"math"
	"testing"

	"tallyhouse/api"
	"tallyhouse/value"
)

// truths are the three, and numbers that are none of them.
func truths() []api.Truth {
	return []api.Truth{0, 1, 2, 3, 4, -1, -2, 255, 256, 257, 258, 1 << 32, 1<<32 + 1, math.MinInt, math.MaxInt}
}

// plain is the one of the three truths that a number counts as.
func plain(t api.Truth) api.Truth {
	if t != api.TruthNo && t != api.TruthYes {
		return api.TruthNull
	}
	return t
}

// P5.4: the tables of two truths; what is none of the three counts as null.
func TestTables(t *testing.T) {
	and := [3][3]api.Truth{{0, 0, 0}, {0, 1, 2}, {0, 2, 2}}
	or := [3][3]api.Truth{{0, 1, 2}, {1, 1, 1}, {2, 1, 2}}
	not := [3]api.Truth{1, 0, 2}
	for _, a := range truths() {
		if got := value.Not(a); got != not[plain(a)] {
			t.Errorf("not %d: %d", a, got)
		}
		for _, b := range truths() {
			if got := value.And(a, b); got != and[plain(a)][plain(b)] {
				t.Errorf("%d and %d: %d", a, b, got)
			}
			if got := value.Or(a, b); got != or[plain(a)][plain(b)] {
				t.Errorf("%d or %d: %d", a, b, got)
			}
		}
	}
}

// P5.6: without null, the truths are those that everyone knows.
func TestTwoTruths(t *testing.T) {
	truth := map[bool]api.Truth{false: api.TruthNo, true: api.TruthYes}
	for _, a := range []bool{false, true} {
		if got := value.Not(truth[a]); got != truth[!a] {
			t.Errorf("not %v: %d", a, got)
		}
		for _, b := range []bool{false, true} {
			if got := value.And(truth[a], truth[b]); got != truth[a && b] {
				t.Errorf("%v and %v: %d", a, b, got)
			}
			if got := value.Or(truth[a], truth[b]); got != truth[a || b] {
				t.Errorf("%v or %v: %d", a, b, got)
			}
		}
	}
}

// P5.6: De Morgan's rules, of whatever truths.
func TestDeMorgan(t *testing.T) {
	for _, a := range truths() {
		for _, b := range truths() {
			if got := value.Not(value.And(a, b)); got != value.Or(value.Not(a), value.Not(b)) {
				t.Errorf("not (%d and %d): %d", a, b, got)
			}
			if got := value.Not(value.Or(a, b)); got != value.And(value.Not(a), value.Not(b)) {
				t.Errorf("not (%d or %d): %d", a, b, got)
			}
		}
	}
}

package conf_test

import (
	"bytes"
	"slices"
	"testing"

	"tallyhouse/api"
	"tallyhouse/conf"
)

// sets are all sets of members, the empty one too.
func sets() [][]int {
	return append([][]int{nil}, groups()...)
}

// majorities are the sets that have more than half of these.
func majorities(list []int) [][]int {
	var out [][]int
	for _, set := range sets() {
		if conf.Majority(of(list...), set) {
			out = append(out, set)
		}
	}
	return out
}

// P8.5: two such sets share one who is a member of both groups.
func TestMajoritiesShareAMember(t *testing.T) {
	for _, a := range groups() {
		for _, b := range groups() {
			if conf.Step(of(a...), of(b...)) != api.OK {
				continue
			}
			for _, one := range majorities(a) {
				for _, two := range majorities(b) {
					shared := func(n int) bool {
						return slices.Contains(two, n) && slices.Contains(a, n) && slices.Contains(b, n)
					}
					if !slices.ContainsFunc(one, shared) {
						t.Fatalf("%s of %s, %s of %s", said(one), said(a), said(two), said(b))
					}
				}
			}
		}
	}
}

// P8.5: whoever comes further, told behind the list or in its place.
func TestAgreedIsNotTakenBack(t *testing.T) {
	fars([]uint64{0, 1, 2, top}, func(l []api.Match) {
		for _, list := range groups() {
			ahead := conf.Agreed(of(list...), l)
			for i, m := range l {
				for _, index := range []uint64{1, 2, 3, top} {
					if index <= m.Index {
						continue
					}
					further := slices.Clone(l)
					further[i].Index = index
					if x := conf.Agreed(of(list...), further); x < ahead {
						t.Fatalf("Agreed(%s, %s): %d, after %d", said(list), saidMatches(further), x, ahead)
					}
					further = append(slices.Clone(l), api.Match{Member: m.Member, Index: index})
					if x := conf.Agreed(of(list...), further); x < ahead {
						t.Fatalf("Agreed(%s, %s): %d, after %d", said(list), saidMatches(further), x, ahead)
					}
				}
			}
		}
	})
}

// P8.5: more than half are as far as that, and not one further.
func TestMoreThanHalfAreAsFarAsAgreed(t *testing.T) {
	fars([]uint64{0, 1, 2, top - 1, top}, func(l []api.Match) {
		for _, list := range groups() {
			x := conf.Agreed(of(list...), l)
			if !conf.Majority(of(list...), asFar(list, l, x)) {
				t.Fatalf("Agreed(%s, %s): %d is too far", said(list), saidMatches(l), x)
			}
			if x < top && conf.Majority(of(list...), asFar(list, l, x+1)) {
				t.Fatalf("Agreed(%s, %s): %d is not far enough", said(list), saidMatches(l), x)
			}
		}
	})
}

// P8.5: who is added and dropped, or dropped and added, leaves all as it was, and each of both is a step.
func TestThereAndBack(t *testing.T) {
	for _, list := range groups() {
		for n := 1; n <= 5; n++ {
			c := of(list...)
			there, back := conf.Add, conf.Drop
			if conf.Has(c, n) {
				there, back = conf.Drop, conf.Add
			}
			next, err := there(c, n)
			if len(list) == 1 && list[0] == n {
				continue
			}
			if err != api.OK || conf.Check(next) != api.OK || conf.Has(next, n) == conf.Has(c, n) {
				t.Fatalf("%s, %d: %s %d", said(list), n, said(next.Members), err)
			}
			if conf.Step(c, next) != api.OK || conf.Step(next, c) != api.OK {
				t.Errorf("from %s to %s it is no step", said(list), said(next.Members))
			}
			if was, err := back(next, n); err != api.OK || !conf.Same(was, c) || said(was.Members) != said(list) {
				t.Errorf("%s, %d there and back: %s %d", said(list), n, said(was.Members), err)
			}
		}
	}
}

// P8.5: Decode of Encode is the same; and of bytes that are right Encode of Decode is them.
func TestDecodeOfEncode(t *testing.T) {
	unlike := map[string]bool{}
	for _, list := range groups() {
		b, err := conf.Encode(of(list...))
		c, failed := conf.Decode(b)
		if err != api.OK || failed != api.OK || !conf.Same(c, of(list...)) || said(c.Members) != said(list) {
			t.Errorf("%s: %x %d, %s %d", said(list), b, err, said(c.Members), failed)
		}
		again, err := conf.Encode(c)
		if err != api.OK || !bytes.Equal(again, b) {
			t.Errorf("%s: %x %d", said(list), again, err)
		}
		unlike[string(b)] = true
	}
	if len(unlike) != 31 {
		t.Errorf("only %d are unlike", len(unlike))
	}
}

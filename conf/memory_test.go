package conf_test

import (
	"bytes"
	"slices"
	"testing"

	"tallyhouse/api"
	"tallyhouse/conf"
)

// roomy is a list with room behind it, in which something stands.
func roomy[T any](list []T, behind ...T) []T {
	whole := append(slices.Clip(slices.Clone(list)), behind...)
	return whole[:len(list)]
}

// whole is a list with what stands in its room.
func whole[T any](list []T) []T {
	return slices.Clone(list[:cap(list)])
}

// spoil writes over a list, all its room included.
func spoil[T any](list []T, with T) {
	list = list[:cap(list)]
	for i := range list {
		list[i] = with
	}
}

// R3: what is handed in is not changed, the room behind it neither.
func TestNothingHandedInIsChanged(t *testing.T) {
	all := groups()
	for _, q := range wrong() {
		all = append(all, q.list)
	}
	for _, list := range all {
		c, other := of(roomy(list, 3, 9, 1)...), of(roomy([]int{1, 2}, 4, 5)...)
		set := roomy([]int{5, 3, 3, 9}, 1, 2)
		l := roomy([]api.Match{{Member: 3, Index: 7}, {Member: 1, Index: 9}}, api.Match{Member: 2, Index: 8})
		inC, inOther, inSet, inL := whole(c.Members), whole(other.Members), whole(set), whole(l)
		conf.Check(c)
		conf.Same(c, other)
		conf.Majority(c, set)
		conf.Agreed(c, l)
		conf.Step(c, other)
		conf.Step(other, c)
		conf.Encode(c)
		for n := range 7 {
			conf.Has(c, n)
			conf.Add(c, n)
			conf.Drop(c, n)
		}
		if said(whole(c.Members)) != said(inC) || said(whole(other.Members)) != said(inOther) {
			t.Errorf("%s was changed", said(list))
		}
		if said(whole(set)) != said(inSet) || saidMatches(whole(l)) != saidMatches(inL) {
			t.Errorf("with %s a list was changed", said(list))
		}
	}
}

// answers are the calls that answer members, each with one who is to be added or dropped.
func answers() map[string]func(c api.Conf) api.Conf {
	out := map[string]func(c api.Conf) api.Conf{
		"Decode": func(c api.Conf) api.Conf {
			b, _ := modelEncode(c.Members)
			out, _ := conf.Decode(b)
			return out
		},
	}
	for n := 1; n <= 5; n++ {
		name := string(rune('0' + n))
		out["Add "+name] = func(c api.Conf) api.Conf {
			out, _ := conf.Add(c, n)
			return out
		}
		out["Drop "+name] = func(c api.Conf) api.Conf {
			out, _ := conf.Drop(c, n)
			return out
		}
	}
	return out
}

// R3, R5: a change of what was answered changes neither what was handed in nor what is answered next, and the other way about.
func TestAnswersAreNewMemory(t *testing.T) {
	for name, do := range answers() {
		for _, list := range groups() {
			c := of(roomy(list, 9, 9)...)
			in := whole(c.Members)
			out := do(c)
			want := said(out.Members)
			two := do(c)
			spoil(out.Members, 77)
			if said(whole(c.Members)) != said(in) {
				t.Errorf("%s of %s answers what was handed in", name, said(list))
			}
			if said(two.Members) != want {
				t.Errorf("%s of %s: two answers share their members", name, said(list))
			}
			spoil(two.Members, 78)
			if got := do(c); said(got.Members) != want {
				t.Errorf("%s of %s, again: %s", name, said(list), said(got.Members))
			}
			out = do(c)
			spoil(c.Members, 79)
			if said(out.Members) != want {
				t.Errorf("%s keeps %s", name, said(list))
			}
			_ = append(out.Members, 80)
			if got := do(of(list...)); said(got.Members) != want || conf.Check(of(list...)) != api.OK {
				t.Errorf("%s of %s, behind all: %s", name, said(list), said(got.Members))
			}
		}
	}
}

// R3: the bytes of Encode are its own, and Decode keeps none.
func TestBytesAreNewMemory(t *testing.T) {
	for _, list := range groups() {
		c := of(roomy(list, 9, 9)...)
		in := whole(c.Members)
		one, _ := conf.Encode(c)
		two, _ := conf.Encode(c)
		want, _ := modelEncode(list)
		spoil(one, 0xEE)
		if !bytes.Equal(two, want) || said(whole(c.Members)) != said(in) {
			t.Errorf("Encode of %s: bytes that are shared", said(list))
		}
		spoil(c.Members, 3)
		if !bytes.Equal(two, want) {
			t.Errorf("Encode keeps %s", said(list))
		}
		b := roomy(want, 1, 2, 3)
		was := whole(b)
		out, _ := conf.Decode(b)
		if !bytes.Equal(whole(b), was) {
			t.Errorf("Decode of %x changes its bytes", want)
		}
		spoil(b, 4)
		if said(out.Members) != said(list) {
			t.Errorf("Decode keeps %x", want)
		}
	}
}

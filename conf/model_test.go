package conf_test

import (
	"iter"
	"math"
	"slices"
	"strconv"

	"tallyhouse/api"
)

const top = math.MaxUint64

// of is members, as they are handed in.
func of(members ...int) api.Conf {
	return api.Conf{Members: members}
}

// said says numbers; nil and empty lists are one.
func said(list []int) string {
	out := "["
	for _, n := range list {
		out += " " + strconv.Itoa(n)
	}
	return out + " ]"
}

// saidMatches says a list of how far they are.
func saidMatches(l []api.Match) string {
	out := "["
	for _, m := range l {
		out += " " + strconv.Itoa(m.Member) + ": " + strconv.FormatUint(m.Index, 10)
	}
	return out + " ]"
}

// groups are all members that may be.
func groups() [][]int {
	all := [][]int{{}}
	for member := 1; member <= 5; member++ {
		for _, list := range all {
			all = append(all, append(slices.Clone(list), member))
		}
	}
	return all[1:]
}

// question is numbers, and what they are asked for.
type question struct {
	name string
	list []int
}

// wrong are members that may not be, each for a reason of its own.
func wrong() []question {
	return []question{
		{"nil", nil},
		{"none at all", []int{}},
		{"0 alone", []int{0}},
		{"0 ahead of one", []int{0, 1}},
		{"0 ahead of all", []int{0, 1, 2, 3, 4, 5}},
		{"0 behind one", []int{1, 0}},
		{"below 0 alone", []int{-1}},
		{"below 0 ahead of one", []int{-1, 2}},
		{"below 0 behind one", []int{2, -2}},
		{"6 alone", []int{6}},
		{"6 behind one", []int{1, 6}},
		{"6 behind all", []int{1, 2, 3, 4, 5, 6}},
		{"6 ahead of one", []int{6, 1}},
		{"the first one twice", []int{1, 1}},
		{"one twice in the middle", []int{1, 2, 2, 3}},
		{"the last one twice", []int{1, 2, 3, 4, 5, 5}},
		{"one twice, another one between", []int{2, 3, 2}},
		{"two that fall", []int{2, 1}},
		{"a fall at the end", []int{1, 2, 5, 4}},
		{"a fall at the beginning", []int{3, 2, 4, 5}},
		{"all of them falling", []int{5, 4, 3, 2, 1}},
		{"the least number", []int{math.MinInt}},
		{"the least number ahead of one", []int{math.MinInt, 1}},
		{"the greatest number", []int{math.MaxInt}},
		{"the greatest number behind one", []int{1, math.MaxInt}},
		{"2^8 above one", []int{257}},
		{"2^8 above one, behind one", []int{1, 258}},
		{"2^3 above one", []int{1, 10}},
		{"2^6 above one", []int{1, 66}},
		{"2^32 above one", []int{1, 1<<32 + 2}},
		{"2^8 below one", []int{-255}},
		{"2^6 below one", []int{-63, 2}},
		{"many", slices.Repeat([]int{1, 2, 3, 4, 5}, 100)},
	}
}

// strangers are no numbers of members, whatever bits of theirs are looked at.
func strangers() []int {
	out := []int{math.MinInt, math.MinInt + 1, math.MaxInt, math.MaxInt - 1, 0}
	for _, far := range []int{-1 << 32, -256, -64, -32, -8, 8, 32, 64, 256, 1 << 16, 1 << 32} {
		for member := 1; member <= 5; member++ {
			out = append(out, far+member)
		}
	}
	return append(out, 6, 7, 8, 31, 32, 33, 63, 64, -1, -2, -3, -4, -5)
}

// lists tells all lists of so many of these, and of fewer. What it tells is used again.
func lists[T any](few []T, most int) iter.Seq[[]T] {
	return func(yield func([]T) bool) {
		var longer func(list []T) bool
		longer = func(list []T) bool {
			if !yield(list) {
				return false
			}
			for _, x := range few {
				if len(list) < most && !longer(append(list, x)) {
					return false
				}
			}
			return true
		}
		longer(make([]T, 0, most))
	}
}

// mayBe is what the chapter says of members.
func mayBe(list []int) bool {
	for i, n := range list {
		if n < 1 || n > 5 || i > 0 && n <= list[i-1] {
			return false
		}
	}
	return len(list) > 0
}

// modelMajority is whether twice as many members as are among set are more than all.
func modelMajority(list, set []int) bool {
	among := 0
	for _, n := range list {
		if slices.Contains(set, n) {
			among++
		}
	}
	return mayBe(list) && 2*among > len(list)
}

func modelFar(member int, l []api.Match) uint64 {
	far := uint64(0)
	for _, m := range l {
		if m.Member == member && m.Index > far {
			far = m.Index
		}
	}
	return far
}

// asFar are the members that are at least that far.
func asFar(list []int, l []api.Match, index uint64) []int {
	var out []int
	for _, n := range list {
		if modelFar(n, l) >= index {
			out = append(out, n)
		}
	}
	return out
}

// modelAgreed tries each Index, as one between two of them can't be the greatest.
func modelAgreed(list []int, l []api.Match) uint64 {
	best := uint64(0)
	for _, m := range l {
		if m.Index > best && modelMajority(list, asFar(list, l, m.Index)) {
			best = m.Index
		}
	}
	return best
}

// modelAdd is what comes of one who is added.
func modelAdd(list []int, member int) ([]int, api.Errno) {
	switch {
	case !mayBe(list):
		return nil, 180
	case member < 1 || member > 5:
		return nil, api.ErrArg
	case slices.Contains(list, member):
		return nil, api.ErrThere
	}
	return slices.Sorted(slices.Values(append(slices.Clone(list), member))), api.OK
}

// modelDrop is what comes of one who is dropped.
func modelDrop(list []int, member int) ([]int, api.Errno) {
	switch {
	case !mayBe(list):
		return nil, 180
	case !slices.Contains(list, member):
		return nil, api.ErrNone
	case len(list) == 1:
		return nil, 180
	}
	return slices.DeleteFunc(slices.Clone(list), func(n int) bool { return n == member }), api.OK
}

// modelStep counts who is a member of one of both alone.
func modelStep(a, b []int) api.Errno {
	if !mayBe(a) || !mayBe(b) {
		return 180
	}
	unlike := 0
	for n := 1; n <= 5; n++ {
		if slices.Contains(a, n) != slices.Contains(b, n) {
			unlike++
		}
	}
	if unlike > 1 {
		return 181
	}
	return api.OK
}

func modelEncode(list []int) ([]byte, api.Errno) {
	if !mayBe(list) {
		return nil, 180
	}
	b := []byte{byte(len(list))}
	for _, n := range list {
		b = append(b, byte(n))
	}
	return b, api.OK
}

func modelDecode(b []byte) ([]int, api.Errno) {
	if len(b) == 0 || len(b)-1 < int(b[0]) {
		return nil, api.ErrShort
	}
	var list []int
	for _, x := range b[1:] {
		list = append(list, int(x))
	}
	if len(list) > int(b[0]) || !mayBe(list) {
		return nil, 180
	}
	return list, api.OK
}

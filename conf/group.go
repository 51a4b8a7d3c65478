package conf

import (
	"iter"
	"math/bits"
	"slices"

	"tallyhouse/api"
)

// group is a set of members: the bit of 1 is the lowest one. The empty one stands for members that may not be, too, as nobody is not enough.
type group uint8

// rows are the members of each group, found by its bits, with noughts behind them.
var rows = [1 << api.MaxMembers][api.MaxMembers]int{
	{}, {1}, {2}, {1, 2}, {3}, {1, 3}, {2, 3}, {1, 2, 3},
	{4}, {1, 4}, {2, 4}, {1, 2, 4}, {3, 4}, {1, 3, 4}, {2, 3, 4}, {1, 2, 3, 4},
	{5}, {1, 5}, {2, 5}, {1, 2, 5}, {3, 5}, {1, 3, 5}, {2, 3, 5}, {1, 2, 3, 5},
	{4, 5}, {1, 4, 5}, {2, 4, 5}, {1, 2, 4, 5}, {3, 4, 5}, {1, 3, 4, 5}, {2, 3, 4, 5}, {1, 2, 3, 4, 5},
}

// groupOf is the group of members that may be: they are just the row of those that are among them. Of others it is empty.
func groupOf(c api.Conf) group {
	g := among(c.Members)
	if !slices.Equal(c.Members, g.conf().Members) {
		return 0
	}
	return g
}

// among is the members that there are among numbers.
func among(numbers []int) group {
	g := group(0)
	for _, n := range numbers {
		g |= alone(n)
	}
	return g
}

// alone is the group of one member; it is empty, if there is no such number of one.
func alone(member int) group {
	if member < 1 || member > api.MaxMembers {
		return 0
	}
	return 1 << (member - 1)
}

func (g group) has(member int) bool {
	return g&alone(member) != 0
}

func (g group) size() int {
	return bits.OnesCount8(uint8(g))
}

// numbers tells the members, rising.
func (g group) numbers() iter.Seq[int] {
	return func(yield func(int) bool) {
		for left := g; left != 0; left &= left - 1 {
			if !yield(bits.TrailingZeros8(uint8(left)) + 1) {
				return
			}
		}
	}
}

// most tells whether it is so of more than half of the members.
func (g group) most(is func(member int) bool) bool {
	count := 0
	for member := range g.numbers() {
		if is(member) {
			count++
		}
	}
	return 2*count > g.size()
}

// conf hands out a copy of the row, as an array is copied.
func (g group) conf() api.Conf {
	row := rows[g]
	return api.Conf{Members: row[:g.size()]}
}

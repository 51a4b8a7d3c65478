package blake

import (
	"math/bits"

	"tallyhouse/octet"
)

var start = [8]uint32{
	0x6a09e667, 0xbb67ae85, 0x3c6ef372, 0xa54ff53a, 0x510e527f, 0x9b05688c, 0x1f83d9ab, 0x5be0cd19,
}

var orders = [10][16]int{
	{0, 1, 2, 3, 4, 5, 6, 7, 8, 9, 10, 11, 12, 13, 14, 15},
	{14, 10, 4, 8, 9, 15, 13, 6, 1, 12, 0, 2, 11, 7, 5, 3},
	{11, 8, 12, 0, 5, 2, 15, 13, 10, 14, 3, 6, 7, 1, 9, 4},
	{7, 9, 3, 1, 13, 12, 11, 14, 2, 6, 5, 10, 4, 0, 15, 8},
	{9, 0, 5, 7, 2, 4, 10, 15, 14, 1, 11, 12, 6, 8, 3, 13},
	{2, 12, 6, 10, 0, 11, 8, 3, 4, 13, 7, 5, 15, 14, 1, 9},
	{12, 5, 1, 15, 14, 13, 4, 10, 0, 7, 6, 3, 9, 2, 8, 11},
	{13, 11, 7, 14, 12, 1, 3, 9, 5, 0, 15, 4, 8, 6, 2, 10},
	{6, 15, 14, 9, 11, 3, 0, 8, 12, 2, 13, 7, 1, 4, 10, 5},
	{10, 2, 8, 4, 7, 6, 1, 5, 15, 11, 9, 14, 3, 12, 13, 0},
}

// fours is which numbers are mixed with one another: first down, then aslant.
var fours = [8][4]int{
	{0, 4, 8, 12}, {1, 5, 9, 13}, {2, 6, 10, 14}, {3, 7, 11, 15},
	{0, 5, 10, 15}, {1, 6, 11, 12}, {2, 7, 8, 13}, {3, 4, 9, 14},
}

// Start: P3.2.
func Start() [8]uint32 {
	return start
}

// Orders: P3.2.
func Orders() [10][16]int {
	return orders
}

// Block: P3.2.
func Block(h [8]uint32, b [64]byte, t uint64, last bool) [8]uint32 {
	v := spread(h, t, last)
	m := numbers(b)
	for i := range len(orders) {
		v = round(v, m, orders[i])
	}
	for i := range h {
		h[i] ^= v[i] ^ v[i+8]
	}
	return h
}

// spread is the sixteen numbers that a block is mixed into.
func spread(h [8]uint32, t uint64, last bool) [16]uint32 {
	var v [16]uint32
	for i := range h {
		v[i], v[i+8] = h[i], start[i]
	}
	v[12] ^= uint32(t)
	v[13] ^= uint32(t >> 32)
	if last {
		v[14] = ^v[14]
	}
	return v
}

// numbers turns the bytes of each number round, as octet reads the highest first.
func numbers(b [64]byte) [16]uint32 {
	var m [16]uint32
	r := octet.Read(b[:])
	for i := range m {
		m[i] = bits.ReverseBytes32(r.U32())
	}
	return m
}

// round mixes all fours once, with the block's numbers in that order.
func round(v, m [16]uint32, order [16]int) [16]uint32 {
	for i := range len(fours) {
		a, b, c, d := fours[i][0], fours[i][1], fours[i][2], fours[i][3]
		x, y := m[order[2*i]], m[order[2*i+1]]
		w := Mix([4]uint32{v[a], v[b], v[c], v[d]}, x, y)
		v[a], v[b], v[c], v[d] = w[0], w[1], w[2], w[3]
	}
	return v
}

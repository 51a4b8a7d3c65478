package blake_test

import "strings"

// draw is numbers that look like chance and are the same at each run.
type draw uint64

func (x *draw) number() uint32 {
	*x = *x*6364136223846793005 + 1442695040888963407
	return uint32(*x >> 32)
}

// saidTurn turns bit by bit.
func saidTurn(n int, x uint32) uint32 {
	for range n {
		x = x/2 + x%2*0x80000000
	}
	return x
}

// saidMix mixes four of v, at the places that are given.
func saidMix(v *[16]uint32, a, b, c, d int, x, y uint32) {
	v[a] = v[a] + v[b] + x
	v[d] = saidTurn(16, v[d]^v[a])
	v[c] = v[c] + v[d]
	v[b] = saidTurn(12, v[b]^v[c])
	v[a] = v[a] + v[b] + y
	v[d] = saidTurn(8, v[d]^v[a])
	v[c] = v[c] + v[d]
	v[b] = saidTurn(7, v[b]^v[c])
}

// saidBlock is a block as the chapter says it, with tables of its own.
func saidBlock(h [8]uint32, b [64]byte, t uint64, last bool) [8]uint32 {
	begin := [8]uint32{0x6a09e667, 0xbb67ae85, 0x3c6ef372, 0xa54ff53a, 0x510e527f, 0x9b05688c, 0x1f83d9ab, 0x5be0cd19}
	var m, v [16]uint32
	for i := range m {
		m[i] = uint32(b[4*i]) + uint32(b[4*i+1])*256 + uint32(b[4*i+2])*65536 + uint32(b[4*i+3])*16777216
	}
	copy(v[:8], h[:])
	copy(v[8:], begin[:])
	v[12] ^= uint32(t % (1 << 32))
	v[13] ^= uint32(t / (1 << 32))
	if last {
		v[14] ^= 0xffffffff
	}
	for _, row := range rows() {
		s := func(i int) uint32 { return m[strings.IndexByte("0123456789abcdef", row[i])] }
		saidMix(&v, 0, 4, 8, 12, s(0), s(1))
		saidMix(&v, 1, 5, 9, 13, s(2), s(3))
		saidMix(&v, 2, 6, 10, 14, s(4), s(5))
		saidMix(&v, 3, 7, 11, 15, s(6), s(7))
		saidMix(&v, 0, 5, 10, 15, s(8), s(9))
		saidMix(&v, 1, 6, 11, 12, s(10), s(11))
		saidMix(&v, 2, 7, 8, 13, s(12), s(13))
		saidMix(&v, 3, 4, 9, 14, s(14), s(15))
	}
	for i := range h {
		h[i] = h[i] ^ v[i] ^ v[i+8]
	}
	return h
}

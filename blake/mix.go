package blake

// turn takes the lowest n bits, of so many, to the top.
func turn[T uint32 | uint64](x T, n, width int) T {
	return x>>n | x<<(width-n)
}

// there is the turn right by n bits.
func there(n int) func(x uint32) uint32 {
	return func(x uint32) uint32 { return turn(x, n, 32) }
}

// back is the turn that takes there(n) back: further right, until all are where they were.
func back(n int) func(x uint32) uint32 {
	return there(32 - n)
}

// Mix: P3.2.
func Mix(v [4]uint32, x, y uint32) [4]uint32 {
	a, b, c, d := v[0], v[1], v[2], v[3]
	a += b + x
	d = there(16)(d ^ a)
	c += d
	b = there(12)(b ^ c)
	a += b + y
	d = there(8)(d ^ a)
	c += d
	b = there(7)(b ^ c)
	return [4]uint32{a, b, c, d}
}

// Unmix takes back the steps of Mix, the last one first: P3.2.
func Unmix(v [4]uint32, x, y uint32) [4]uint32 {
	a, b, c, d := v[0], v[1], v[2], v[3]
	b = back(7)(b) ^ c
	c -= d
	d = back(8)(d) ^ a
	a -= b + y
	b = back(12)(b) ^ c
	c -= d
	d = back(16)(d) ^ a
	a -= b + x
	return [4]uint32{a, b, c, d}
}

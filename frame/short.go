package frame

import (
	"math"
	"math/bits"
)

const (
	// part is how many bits of a number stand in a byte.
	part = 7
	// more is the bit that tells that another byte comes behind.
	more = 1 << part
)

// Short: P7.3.
func Short(x uint64) []byte {
	return putShort(nil, x)
}

// putShort adds to b, which is to be the package's own.
func putShort(b []byte, x uint64) []byte {
	// Those ahead of the last byte, which a nought has, too, though it has no bits.
	for i := max(0, bits.Len64(x)-1) / part; i > 0; i-- {
		b = append(b, byte(x>>(part*i))|more)
	}
	return append(b, byte(x)&^more)
}

// Long: P7.3. It goes no further than a number's bytes can: behind the first one x is above 0, and grows.
func Long(b []byte) (uint64, int, bool) {
	x := uint64(0)
	for i, c := range b {
		if i == 0 && c == more || x > math.MaxUint64>>part {
			break
		}
		x = x<<part | uint64(c&^more)
		if c < more {
			return x, i + 1, true
		}
	}
	return 0, 0, false
}

package blake_test

import (
	"bytes"
	"math"
	"math/bits"
	"testing"

	"tallyhouse/api"
	"tallyhouse/blake"
)

// P3.2: each of the start is the whole part of 2^32 times a prime's root, but for what is above 32 bits: its square is at most the prime times 2^64, that of the next number is more.
func TestStart(t *testing.T) {
	if got := blake.Start()[0]; got != 0x6a09e667 {
		t.Errorf("the first one: %x", got)
	}
	for i, p := range [8]uint64{2, 3, 5, 7, 11, 13, 17, 19} {
		whole := uint64(math.Sqrt(float64(p)))
		n := whole<<32 + uint64(blake.Start()[i])
		high, rest := bits.Mul64(n, n)
		if high > p || high == p && rest > 0 {
			t.Errorf("%d: more than the root of %d", i, p)
		}
		if high, _ := bits.Mul64(n+1, n+1); high < p {
			t.Errorf("%d: less than the root of %d", i, p)
		}
	}
}

// rows is the orders as the chapter has them, a digit to the base 16 for each place.
func rows() [10]string {
	return [10]string{
		"0123456789abcdef", "ea489fd61c02b753", "b8c052fdae367194", "7931dcbe265a40f8", "905724afe1bc683d",
		"2c6a0b834d75fe19", "c51fed4a0763928b", "db7ec13950f4862a", "6fe9b308c2d714a5", "a2847615fb9e3cd0",
	}
}

// P3.2, P3.4: the orders are the chapter's, and each has each place once.
func TestOrders(t *testing.T) {
	if got := blake.Orders()[1][0]; got != 14 {
		t.Errorf("the first one of the second order: %d", got)
	}
	for i, order := range blake.Orders() {
		var met [16]int
		for k, place := range order {
			if place < 0 || place > 15 {
				t.Fatalf("%d %d: %d is no place", i, k, place)
			}
			if "0123456789abcdef"[place] != rows()[i][k] {
				t.Errorf("%d %d: %d, not %c", i, k, place, rows()[i][k])
			}
			met[place]++
		}
		for place, n := range met {
			if n != 1 {
				t.Errorf("%d: place %d stands there %d times", i, place, n)
			}
		}
	}
}

// R3: what is answered is the caller's: to change it changes no later answer.
func TestTablesStay(t *testing.T) {
	h, orders := blake.Start(), blake.Orders()
	h[0], orders[0][0] = 7, 7
	if blake.Start()[0] != 0x6a09e667 || blake.Orders()[0][0] != 0 {
		t.Error("a table was changed from outside")
	}
}

// mixed is numbers, and what they are when they are mixed.
type mixed struct {
	v    [4]uint32
	x, y uint32
	want [4]uint32
}

func mixes() []mixed {
	const most = 0xffffffff
	const top = 0x80000000
	return []mixed{
		{[4]uint32{}, 1, 0, [4]uint32{0x00000011, 0x20220202, 0x11010100, 0x11000100}},
		{[4]uint32{}, 0, 1, [4]uint32{0x00000001, 0x00020000, 0x01000000, 0x01000000}},
		{[4]uint32{}, 0, 0, [4]uint32{}},
		{[4]uint32{1, 2, 3, 4}, 5, 6, [4]uint32{0x001000ce, 0x879c3839, 0xce0c1c03, 0xce001c00}},
		{[4]uint32{0x01234567, 0x89abcdef, 0xfedcba98, 0x76543210}, 0xdeadbeef, 0xcafebabe, [4]uint32{0x7770f6a4, 0x10527b2c, 0x6bc8ffa9, 0x8c9725e9}},
		// These wrap round.
		{[4]uint32{most, most, most, most}, most, most, [4]uint32{0x000fffdc, 0x3db81be4, 0xdc020dfe, 0xdc000dff}},
		{[4]uint32{most, 1, 0, 0}, 0, 0, [4]uint32{0x00100000, 0x00002020, 0x00001000, 0x00001000}},
		{[4]uint32{top, top, top, top}, top, top, [4]uint32{0x00000000, 0x01000000, 0x80000000, 0x00000000}},
	}
}

// P3.2: Mix and Unmix of numbers of which it is known.
func TestMixKnown(t *testing.T) {
	for i, q := range mixes() {
		if got := blake.Mix(q.v, q.x, q.y); got != q.want {
			t.Errorf("%d: Mix: %08x, not %08x", i, got, q.want)
		}
		if got := blake.Unmix(q.want, q.x, q.y); got != q.v {
			t.Errorf("%d: Unmix: %08x, not %08x", i, got, q.v)
		}
	}
}

// P3.4: Mix and Unmix lead back to one another, whichever comes first.
func TestMixThereAndBack(t *testing.T) {
	edges := []uint32{0, 1, 0x7fffffff, 0x80000000, 0xfffffffe, 0xffffffff}
	n := len(edges)
	for i := range n * n * n * n * n * n {
		var e [6]uint32
		for k := range e {
			e[k], i = edges[i%n], i/n
		}
		thereAndBack(t, [4]uint32(e[:4]), e[4], e[5])
	}
	x := draw(1)
	for range 20000 {
		thereAndBack(t, [4]uint32{x.number(), x.number(), x.number(), x.number()}, x.number(), x.number())
	}
}

func thereAndBack(t *testing.T, v [4]uint32, x, y uint32) {
	t.Helper()
	if got := blake.Unmix(blake.Mix(v, x, y), x, y); got != v {
		t.Fatalf("%08x with %08x and %08x: mixed and back it is %08x", v, x, y, got)
	}
	if got := blake.Mix(blake.Unmix(v, x, y), x, y); got != v {
		t.Fatalf("%08x with %08x and %08x: back and mixed it is %08x", v, x, y, got)
	}
}

// P3.2: Block at each kind of t, of a last block and of one that is not.
func TestBlockKnown(t *testing.T) {
	var h [8]uint32
	var b [64]byte
	for i := range h {
		h[i] = 0x01234567 * uint32(i+1)
	}
	for i := range b {
		b[i] = byte(i*37 + 11)
	}
	for _, q := range []struct {
		t    uint64
		last bool
		want [8]uint32
	}{
		{0, false, [8]uint32{0x794769aa, 0x9c893ffe, 0x9afbce5f, 0xd517436e, 0xc18fcb49, 0xa089b9b9, 0xbaaaf223, 0x0a9d817c}},
		{0, true, [8]uint32{0x4afc66b6, 0x629ade79, 0x70b44d16, 0xf54fead8, 0x1471153d, 0x7ba4ecf6, 0x916fe2c6, 0xa883f96a}},
		{64, false, [8]uint32{0x97470aa8, 0x37498137, 0x7f9a1f40, 0x7afa815b, 0x7cac0c5c, 0x6d040dc3, 0x78fc14e5, 0x8fbe9381}},
		{64, true, [8]uint32{0x32f40405, 0x8377e5ee, 0x93a4a210, 0xc22c10c6, 0x0b156cf1, 0x3f734d0e, 0xb22567e3, 0x59f22aea}},
		{1<<32 - 1, false, [8]uint32{0x78897187, 0x54152e5b, 0x5d969af9, 0x5011878b, 0xc17e4885, 0xaa2cf027, 0x3d891f65, 0x097e8adb}},
		{1<<32 - 1, true, [8]uint32{0xef5eed86, 0xbc4c38b8, 0x2fddc86b, 0x790c710c, 0xf00d3d7a, 0xeea31183, 0x39f2befe, 0xea2b9867}},
		{1 << 32, false, [8]uint32{0x0f2efdd0, 0x2bee88a3, 0x99e5b00b, 0x5c870f5f, 0x0fd55a75, 0x344ab3c3, 0x4b30a0ad, 0xc633931f}},
		{1 << 32, true, [8]uint32{0x3829b33c, 0x326ffeec, 0xf76a7fa9, 0xf0efc34e, 0xa0d8d21d, 0x9282793b, 0x9b952ea6, 0xa58fc8a3}},
		{1<<32 + 64, false, [8]uint32{0x9a2b065d, 0xbe1f0178, 0xbe43f991, 0x7020c1bc, 0x54fbe3b7, 0x077a5871, 0x1454118f, 0xa1145bc3}},
		{1<<32 + 64, true, [8]uint32{0x972f6904, 0x304ab482, 0x05dff150, 0x0f53cbc3, 0x8fcb20e0, 0x231f16d9, 0x05381ff4, 0x368c7d3e}},
		{0x0123456789abcdef, true, [8]uint32{0x63efdc9d, 0x0968a997, 0xf4623bc2, 0x96840c49, 0x1a26bd9f, 0x6e5a7ec2, 0xedfa3df2, 0xa49ad608}},
		{math.MaxUint64, false, [8]uint32{0x14fc0396, 0x1298c016, 0x1117a4ff, 0x33a872e1, 0x16538dca, 0xf3fe1431, 0x1ff4630b, 0x2f5c4420}},
		{math.MaxUint64, true, [8]uint32{0x485b2daa, 0x730039b4, 0xc1904f3f, 0xc4bdf17d, 0x8b7ca360, 0x946f2136, 0x56bbb5d2, 0x416878bd}},
	} {
		if got := blake.Block(h, b, q.t, q.last); got != q.want {
			t.Errorf("t %d, last %v: %08x, not %08x", q.t, q.last, got, q.want)
		}
	}
}

// P3.2: Block goes as the chapter says it, put down once more here, at what is drawn.
func TestBlockAsSaid(t *testing.T) {
	x := draw(2)
	for range 3000 {
		var h [8]uint32
		var b [64]byte
		for i := range h {
			h[i] = x.number()
		}
		for i := range b {
			b[i] = byte(x.number())
		}
		n := uint64(x.number())<<32 | uint64(x.number())
		n >>= x.number() % 64
		last := x.number()%2 == 0
		if got, want := blake.Block(h, b, n, last), saidBlock(h, b, n, last); got != want {
			t.Fatalf("h %08x, b %x, t %d, last %v: %08x, not %08x", h, b, n, last, got, want)
		}
	}
}

// P3.2: the self-test of RFC 7693, which asks Block for digests of four lengths, with a key and without.
func TestBlockBySelfTest(t *testing.T) {
	var all []byte
	for _, out := range []int{16, 20, 28, 32} {
		for _, in := range []int{0, 3, 64, 65, 255, 1024} {
			b := sequence(in)
			all = append(all, keyed(out, nil, b)...)
			all = append(all, keyed(out, sequence(out), b)...)
		}
	}
	const want = "6a411f08ce25adcdfb02aba641451cec53c598b24f4fc787fbdc88797f4c1dfe"
	if got := blake.Text(api.Id(keyed(32, nil, all))); got != want {
		t.Errorf("by Block: %s, not %s", got, want)
	}
	if got := blake.Text(blake.Sum(all)); got != want {
		t.Errorf("by Sum: %s, not %s", got, want)
	}
}

// sequence is the self-test's bytes, by the numbers of Fibonacci.
func sequence(n int) []byte {
	out := make([]byte, n)
	a, b := 0xdead4bad*uint32(n), uint32(1)
	for i := range out {
		a, b = b, a+b
		out[i] = byte(b >> 24)
	}
	return out
}

// keyed is BLAKE2s of any length, perhaps with a key, which stands ahead in a block of its own.
func keyed(out int, key, b []byte) []byte {
	h := blake.Start()
	h[0] ^= 0x01010000 ^ uint32(len(key))<<8 ^ uint32(out)
	if len(key) > 0 {
		b = append(append(bytes.Clone(key), make([]byte, 64-len(key))...), b...)
	}
	all := blocks(b)
	for i, c := range all {
		h = blake.Block(h, c, uint64(min(64*i+64, len(b))), i == len(all)-1)
	}
	return low(h)[:out]
}

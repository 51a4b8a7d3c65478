package blake_test

import (
	"bytes"
	"testing"

	"tallyhouse/api"
	"tallyhouse/blake"
)

// data is n bytes, other ones for each n.
func data(n int) []byte {
	out := make([]byte, n)
	for i := range out {
		out[i] = byte(i*7 + n)
	}
	return out
}

// blocks is the bytes cut into blocks, noughts behind the last ones; of no bytes one block of noughts.
func blocks(b []byte) [][64]byte {
	out := [][64]byte{{}}
	for i, x := range b {
		if i > 0 && i%64 == 0 {
			out = append(out, [64]byte{})
		}
		out[i/64][i%64] = x
	}
	return out
}

// low is numbers as bytes, the lowest byte first.
func low(h [8]uint32) []byte {
	var out []byte
	for _, x := range h {
		out = append(out, byte(x), byte(x>>8), byte(x>>16), byte(x>>24))
	}
	return out
}

// P3.1: the chapter's examples, and digests that are known, those at the edges of blocks among them.
func TestSumKnown(t *testing.T) {
	for _, q := range []struct {
		b    []byte
		want string
	}{
		{[]byte("abc"), "508c5e8c327c14e2e1a72ba34eeb452f37458b209ed63a294d999b4c86675982"},
		{nil, "69217a3079908094e11121d042354a7c1f55b6482ca1a51e1b250dfd1ed0eef9"},
		{[]byte{}, "69217a3079908094e11121d042354a7c1f55b6482ca1a51e1b250dfd1ed0eef9"},
		{data(1), "fc87f4f1d721942d282aa61989c069b290d1447d20d4b811430f47ea0edf9991"},
		{data(4), "47e29b1f076e096ebc7767bc82a69e74a85c944eef4689403b4c128499c3d270"},
		{data(5), "e6a6423acd190927729568057e771b796b9cf55aaf0105273495fc78b0212122"},
		{data(63), "5c9eb3e5acf93799a68777f27cdde8e90cb16d511b7983a875ac5dbfa8aca778"},
		{data(64), "85de17b4e2581889b98b948346a970b5291b5d2a2a8ee75b1aa2bbb02b98b211"},
		{data(65), "1c1a9619a26d7cd550199567e5c316eb3db33d96c29790a6c68ba7f1ee8a8803"},
		{data(127), "440d16085a6e3685c5cbc450b56cb4cb71a3f707e5eae0d4ca18715a41583fc7"},
		{data(128), "46bf7abf397f8c8f86566279cba2505c9d255be7409760dc327ae520faaf356a"},
		{data(129), "030e44da1226be0765e3ff31a849aca32cb20222ac3dc32ff10670dc95b22534"},
		{data(191), "51f1a90e9d11fde9075ef1833920b1bf4b82c8363383612132b2808b921ed8ce"},
		{data(192), "eaff37f302ed7a583e27f6ef1108be7f55d920499f416af9279fc7f61716110b"},
		{data(193), "b574bc5e8a0464250f063fd4f30af9be9a3b74eb7bd45aa9d08de0e1fb5169e3"},
		{data(1000), "802d01c1238627f67baee29885006cfaab1f07890532935a1ae9354d318df150"},
		{data(4096), "e7b1b3b42839e7a85c653812cc29d2da8a000db2900ceacff2c4bcedb934c616"},
		{data(65535), "aed9a7619a438eaa24cba49b3e8856960bbc8dc6248dda1d1d37b5a3cb944b8f"},
		{data(65536), "1d3dc9266d4f0548d2a6eecf89d14c92d6182a8ac240a5fe6316fed0906881da"},
	} {
		if got := blake.Text(blake.Sum(q.b)); got != q.want {
			t.Errorf("%d bytes: %s, not %s", len(q.b), got, q.want)
		}
	}
}

// P3.1: every length up to 599, told by one digest of all their digests.
func TestSumEveryLength(t *testing.T) {
	var all []byte
	for n := range 600 {
		id := blake.Sum(data(n))
		all = append(all, id[:]...)
	}
	const want = "ec557803188d274dd64e5f67bdfe23ae517cf560d12f8bfaf3ce9e25cee0142a"
	if got := blake.Text(blake.Sum(all)); got != want {
		t.Errorf("%s, not %s", got, want)
	}
}

// P3.1: noughts at the end count, though blocks are filled up with them.
func TestSumCountsNoughts(t *testing.T) {
	met := map[api.Id]int{}
	for n := range 200 {
		id := blake.Sum(make([]byte, n))
		if k, ok := met[id]; ok {
			t.Errorf("%d and %d noughts have one digest", k, n)
		}
		met[id] = n
	}
}

// P3.1: each bit of what is digested counts.
func TestSumCountsEachBit(t *testing.T) {
	b := data(130)
	met := map[api.Id]int{blake.Sum(b): -1}
	for i := range 8 * len(b) {
		b[i/8] ^= 1 << (i % 8)
		id := blake.Sum(b)
		b[i/8] ^= 1 << (i % 8)
		if k, ok := met[id]; ok {
			t.Errorf("bits %d and %d turned: one digest", k, i)
		}
		met[id] = i
	}
}

// R3: Sum leaves alone what it is handed and sees nothing of the room behind its end.
func TestSumLeavesItsBytes(t *testing.T) {
	for n := range 140 {
		room := append(data(n), bytes.Repeat([]byte{200}, 100)...)
		was := bytes.Clone(room)
		if blake.Sum(room[:n]) != blake.Sum(data(n)) {
			t.Errorf("%d bytes: the room counts", n)
		}
		if !bytes.Equal(room, was) {
			t.Errorf("%d bytes: they were changed", n)
		}
	}
}

// P3.4: Sum is Block, block by block, from the start so.
func TestSumIsBlocks(t *testing.T) {
	for n := range 400 {
		b := data(n)
		h := blake.Start()
		h[0] ^= 0x01010020
		all := blocks(b)
		for i, c := range all {
			if i < len(all)-1 {
				h = blake.Block(h, c, uint64(64*i+64), false)
			} else {
				h = blake.Block(h, c, uint64(n), true)
			}
		}
		id := blake.Sum(b)
		if !bytes.Equal(id[:], low(h)) {
			t.Errorf("%d bytes: %x, not %x", n, id, low(h))
		}
	}
}

package octet_test

import (
	"bytes"
	"math"
	"slices"
	"testing"

	"tallyhouse/api"
	"tallyhouse/octet"
)

// stands fails the test where a reader is not at that place, with so many bytes left and that error.
func stands(t *testing.T, what string, r *octet.Reader, at, left int, err api.Errno) {
	t.Helper()
	if r.At() != at || r.Left() != left || r.Err() != err {
		t.Errorf("%s: at %d, left %d, error %d; not %d, %d, %d", what, r.At(), r.Left(), r.Err(), at, left, err)
	}
}

// P1.3, P1.4: the chapter's examples.
func TestReaderExamples(t *testing.T) {
	r := octet.Read([]byte{1, 2, 5})
	stands(t, "Read", r, 0, 3, api.OK)
	if x := r.U16(); x != 258 {
		t.Errorf("U16: %d", x)
	}
	stands(t, "U16", r, 2, 1, api.OK)
	if x := r.U16(); x != 0 {
		t.Errorf("U16 of one byte: %d", x)
	}
	stands(t, "U16 of one byte", r, 2, 1, api.ErrShort)
	if b := r.Raw(1); len(b) != 0 {
		t.Errorf("Raw behind an error: %v", b)
	}
	stands(t, "Raw behind an error", r, 2, 1, api.ErrShort)

	r = octet.Read([]byte{1, 2, 5})
	if x := r.U16(); x != 258 {
		t.Errorf("U16: %d", x)
	}
	r.Go(-1)
	stands(t, "Go(-1)", r, 1, 2, api.OK)
	if x := r.U16(); x != 517 {
		t.Errorf("U16 behind Go: %d", x)
	}
	stands(t, "U16 behind Go", r, 3, 0, api.OK)
	r.Go(1)
	stands(t, "Go(1)", r, 3, 0, api.ErrArg)
}

// P1.3: each call takes as many bytes as it says, the highest first.
func TestReadNumbers(t *testing.T) {
	r := octet.Read([]byte{0xf1, 0xf2, 0xf3, 0xf4, 0xf5, 0xf6, 0xf7, 0xf8, 0xf9, 0xfa, 0xfb, 0xfc, 0xfd, 0xfe, 0xff})
	if x := r.U8(); x != 0xf1 {
		t.Errorf("U8: %x", x)
	}
	stands(t, "U8", r, 1, 14, api.OK)
	if x := r.U16(); x != 0xf2f3 {
		t.Errorf("U16: %x", x)
	}
	stands(t, "U16", r, 3, 12, api.OK)
	if x := r.U32(); x != 0xf4f5f6f7 {
		t.Errorf("U32: %x", x)
	}
	stands(t, "U32", r, 7, 8, api.OK)
	if x := r.U64(); x != 0xf8f9fafbfcfdfeff {
		t.Errorf("U64: %x", x)
	}
	stands(t, "U64", r, 15, 0, api.OK)
}

// P1.3: one byte too few gives 0 and ErrShort, and nothing moves; just enough is read.
func TestReadShort(t *testing.T) {
	calls := []struct {
		size int
		call func(*octet.Reader) uint64
	}{
		{1, func(r *octet.Reader) uint64 { return uint64(r.U8()) }},
		{2, func(r *octet.Reader) uint64 { return uint64(r.U16()) }},
		{4, func(r *octet.Reader) uint64 { return uint64(r.U32()) }},
		{8, func(r *octet.Reader) uint64 { return r.U64() }},
	}
	for _, c := range calls {
		for n := range 10 {
			r := octet.Read(bytes.Repeat([]byte{255}, n+3))
			r.Go(3)
			x := c.call(r)
			if n < c.size {
				stands(t, "too few", r, 3, n, api.ErrShort)
				if x != 0 {
					t.Errorf("%d bytes of %d: %x", n, c.size, x)
				}
				continue
			}
			stands(t, "enough", r, 3+c.size, n-c.size, api.OK)
			if want := uint64(math.MaxUint64) >> (64 - 8*c.size); x != want {
				t.Errorf("%d bytes: %x, not %x", c.size, x, want)
			}
		}
	}
}

// P1.3: Raw at its edges.
func TestRaw(t *testing.T) {
	for i, q := range []struct {
		n    int
		want []byte
		at   int
		err  api.Errno
	}{
		{0, nil, 1, api.OK},
		{1, []byte{2}, 2, api.OK},
		{3, []byte{2, 3, 4}, 4, api.OK},
		{4, nil, 1, api.ErrShort},
		{math.MaxInt, nil, 1, api.ErrShort},
		{-1, nil, 1, api.ErrArg},
		{math.MinInt, nil, 1, api.ErrArg},
	} {
		r := octet.Read([]byte{1, 2, 3, 4})
		r.U8()
		if b := r.Raw(q.n); !bytes.Equal(b, q.want) {
			t.Errorf("%d: %v, not %v", i, b, q.want)
		}
		stands(t, "Raw", r, q.at, 4-q.at, q.err)
	}
	for _, none := range [][]byte{nil, {}} {
		r := octet.Read(none)
		if b := r.Raw(0); len(b) != 0 {
			t.Errorf("Raw(0) of nothing: %v", b)
		}
		stands(t, "Raw(0) of nothing", r, 0, 0, api.OK)
		r.Raw(1)
		stands(t, "Raw(1) of nothing", r, 0, 0, api.ErrShort)
	}
}

// P1.3: Read sees nothing of the room behind its list's end.
func TestReadStopsAtTheEnd(t *testing.T) {
	room := []byte{1, 2, 3, 4}
	r := octet.Read(room[:2])
	if b := r.Raw(3); len(b) != 0 {
		t.Errorf("beyond the list: %v", b)
	}
	stands(t, "beyond the list", r, 0, 2, api.ErrShort)
}

// P1.3: what Raw answers is memory of its own, and reading changes no byte.
func TestRawOwnMemory(t *testing.T) {
	room := []byte{1, 2, 3, 4, 5, 6}
	r := octet.Read(room[:4])
	one := r.Raw(2)
	r.Go(-2)
	two := r.Raw(2)
	one[0], one[1] = 70, 71
	one = append(one, 72, 73)
	if !bytes.Equal(two, []byte{1, 2}) {
		t.Errorf("two answers share memory: %v", two)
	}
	if r.Go(-2); r.U32() != 0x01020304 {
		t.Error("an answer shares the reader's bytes")
	}
	if !bytes.Equal(room, []byte{1, 2, 3, 4, 5, 6}) || len(one) != 4 {
		t.Errorf("the bytes were changed: %v", room)
	}
}

// P1.4: Go at its edges, from a place amid the bytes.
func TestGo(t *testing.T) {
	for _, q := range []struct {
		n, at int
		err   api.Errno
	}{
		{0, 2, api.OK}, {1, 3, api.OK}, {3, 5, api.OK}, {-1, 1, api.OK}, {-2, 0, api.OK},
		{4, 2, api.ErrArg}, {-3, 2, api.ErrArg},
		{math.MaxInt, 2, api.ErrArg}, {math.MaxInt - 1, 2, api.ErrArg},
		{math.MinInt, 2, api.ErrArg}, {math.MinInt + 1, 2, api.ErrArg},
	} {
		r := octet.Read([]byte{1, 2, 3, 4, 5})
		r.U16()
		r.Go(q.n)
		stands(t, "Go", r, q.at, 5-q.at, q.err)
	}
	for _, n := range []int{math.MinInt, -1, 1, math.MaxInt} {
		r := octet.Read(nil)
		r.Go(0)
		stands(t, "Go(0) of nothing", r, 0, 0, api.OK)
		r.Go(n)
		stands(t, "Go of nothing", r, 0, 0, api.ErrArg)
	}
}

// P1.3, P1.4: behind an error nothing moves any more, nothing is told, and the first error stays.
func TestBehindAnError(t *testing.T) {
	for i, q := range []struct {
		spoil func(*octet.Reader)
		err   api.Errno
	}{
		{func(r *octet.Reader) { r.U64() }, api.ErrShort},
		{func(r *octet.Reader) { r.Raw(6) }, api.ErrShort},
		{func(r *octet.Reader) { r.Raw(-1) }, api.ErrArg},
		{func(r *octet.Reader) { r.Go(6) }, api.ErrArg},
		{func(r *octet.Reader) { r.Go(-3) }, api.ErrArg},
	} {
		r := octet.Read([]byte{1, 2, 3, 4, 5, 6, 7})
		r.U16()
		q.spoil(r)
		stands(t, "spoilt", r, 2, 5, q.err)
		if r.U8() != 0 || r.U16() != 0 || r.U32() != 0 || r.U64() != 0 {
			t.Errorf("%d: a number behind an error", i)
		}
		stands(t, "numbers behind an error", r, 2, 5, q.err)
		for _, n := range []int{math.MinInt, -3, -1, 0, 1, 6, math.MaxInt} {
			if b := r.Raw(n); len(b) != 0 {
				t.Errorf("%d: Raw(%d) behind an error: %v", i, n, b)
			}
			stands(t, "Raw behind an error", r, 2, 5, q.err)
			r.Go(n)
			stands(t, "Go behind an error", r, 2, 5, q.err)
		}
	}
}

// P1.4: a nil Reader has no bytes, and ErrNil for an error, whatever is asked.
func TestNilReader(t *testing.T) {
	var r *octet.Reader
	stands(t, "nil", r, 0, 0, api.ErrNil)
	if r.U8() != 0 || r.U16() != 0 || r.U32() != 0 || r.U64() != 0 {
		t.Error("a number of a nil Reader")
	}
	for _, n := range []int{math.MinInt, -1, 0, 1, math.MaxInt} {
		if b := r.Raw(n); len(b) != 0 {
			t.Errorf("Raw(%d) of a nil Reader: %v", n, b)
		}
		r.Go(n)
		stands(t, "nil", r, 0, 0, api.ErrNil)
	}
}

// R5: readers of the same bytes do not hang on one another.
func TestReadersApart(t *testing.T) {
	b := []byte{1, 2, 3}
	one, two := octet.Read(b), octet.Read(b)
	one.U16()
	one.U16()
	stands(t, "one", one, 2, 1, api.ErrShort)
	stands(t, "two", two, 0, 3, api.OK)
	if x := two.U8(); x != 1 {
		t.Errorf("two: %d", x)
	}
}

// P1.5: what was put is read as the same, nothing is left, and behind Go back it is read again.
func TestPutAndRead(t *testing.T) {
	for _, x := range samples() {
		b := octet.Put64(octet.Put32(octet.Put16([]byte{byte(x)}, uint16(x)), uint32(x)), x)
		r := octet.Read(b)
		for range 2 {
			if r.U8() != byte(x) || r.U16() != uint16(x) || r.U32() != uint32(x) || r.U64() != x {
				t.Fatalf("%d is read otherwise", x)
			}
			stands(t, "all read", r, 15, 0, api.OK)
			r.Go(-15)
		}
		if !octet.Equal(r.Raw(15), b) {
			t.Errorf("%d: Raw is not what was put", x)
		}
	}
}

// model is a reader as the chapter says it, with the bytes that are left cut anew at each call.
type model struct {
	all []byte
	at  int
	err api.Errno
}

func (m *model) take(n int) []byte {
	rest := m.all[m.at:]
	switch {
	case m.err != api.OK:
		return nil
	case n < 0:
		m.err = api.ErrArg
		return nil
	case n > len(rest):
		m.err = api.ErrShort
		return nil
	}
	m.at += n
	return rest[:n]
}

func (m *model) walk(n int) {
	if m.err != api.OK {
		return
	}
	if to := m.at + n; to < 0 || to > len(m.all) {
		m.err = api.ErrArg
	} else {
		m.at = to
	}
}

type step struct {
	model  func(*model) []byte
	reader func(*octet.Reader) []byte
}

// whole is what a number's read comes to in the model: zeros stand for what could not be read.
func whole(b []byte, size int) []byte {
	return append(make([]byte, size-len(b)), b...)
}

func steps() []step {
	out := []step{
		{func(m *model) []byte { return whole(m.take(1), 1) }, func(r *octet.Reader) []byte { return []byte{r.U8()} }},
		{func(m *model) []byte { return whole(m.take(2), 2) }, func(r *octet.Reader) []byte { return octet.Put16(nil, r.U16()) }},
		{func(m *model) []byte { return whole(m.take(4), 4) }, func(r *octet.Reader) []byte { return octet.Put32(nil, r.U32()) }},
		{func(m *model) []byte { return whole(m.take(8), 8) }, func(r *octet.Reader) []byte { return octet.Put64(nil, r.U64()) }},
	}
	for _, n := range []int{-1, 0, 1, 3} {
		out = append(out, step{func(m *model) []byte { return m.take(n) }, func(r *octet.Reader) []byte { return r.Raw(n) }})
	}
	for _, n := range []int{-4, -1, 0, 2, 7} {
		out = append(out, step{func(m *model) []byte { m.walk(n); return nil }, func(r *octet.Reader) []byte { r.Go(n); return nil }})
	}
	return out
}

// P1.3, P1.4: every run of four calls goes as the model does.
func TestRunsOfCalls(t *testing.T) {
	all := steps()
	b := []byte{0x81, 2, 0x83, 4, 0x85, 6, 0x87, 8, 0x89, 10}
	for size := range len(b) + 1 {
		var run [4]int
		for i := range len(all) * len(all) * len(all) * len(all) {
			for k := range run {
				run[k], i = i%len(all), i/len(all)
			}
			m, r := &model{all: b[:size]}, octet.Read(slices.Clone(b[:size]))
			for _, k := range run {
				want, got := all[k].model(m), all[k].reader(r)
				if !bytes.Equal(want, got) || r.At() != m.at || r.Left() != size-m.at || r.Err() != m.err {
					t.Fatalf("%d bytes, run %v: %x at %d, error %d; not %x at %d, error %d", size, run, got, r.At(), r.Err(), want, m.at, m.err)
				}
			}
		}
	}
}

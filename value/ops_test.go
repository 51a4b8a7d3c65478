package value_test

import (
	"cmp"
	"math"
	"slices"
	"strings"
	"testing"

	"tallyhouse/api"
	"tallyhouse/value"
)

// noOps are below the first op and above the last one, which is of 6 or of 5.
func noOps(last int) []int {
	return []int{math.MinInt, -1 << 32, -7, -1, 0, last + 1, last + 2, 255, 256, 257, 1 << 32, 1<<32 + 1, math.MaxInt}
}

// tests fails the test where value.Test says something else.
func tests(t *testing.T, op int, a, b api.Value, want api.Truth, err api.Errno) {
	t.Helper()
	if got, e := value.Test(op, a, b); got != want || e != err {
		t.Errorf("op %d of %#v and %#v: %d, error %d; not %d, error %d", op, a, b, got, e, want, err)
	}
}

// reckons fails the test where value.Reckon says something else.
func reckons(t *testing.T, op int, a, b, want api.Value, err api.Errno) {
	t.Helper()
	if got, e := value.Reckon(op, a, b); got != want || e != err {
		t.Errorf("op %d of %#v and %#v: %#v, error %d; not %#v, error %d", op, a, b, got, e, want, err)
	}
}

// so is the row of what the six ops tell of the same, the lesser and the greater.
func so(op, order int) api.Truth {
	rows := map[int][3]api.Truth{
		api.OpEq: {0, 1, 0}, api.OpNe: {1, 0, 1}, api.OpLt: {1, 0, 0}, api.OpLe: {1, 1, 0}, api.OpGt: {0, 0, 1}, api.OpGe: {0, 1, 1},
	}
	return rows[op][order+1]
}

// P5.2: the chapter's examples.
func TestTestExamples(t *testing.T) {
	tests(t, api.OpLt, value.Int(1), value.Null(), api.TruthNull, api.OK)
	tests(t, api.OpEq, value.Int(1), value.Text("1"), api.TruthNo, api.ErrType)
}

// P5.2: the ops' numbers.
func TestOpNumbers(t *testing.T) {
	if got := []int{api.OpEq, api.OpNe, api.OpLt, api.OpLe, api.OpGt, api.OpGe}; !slices.Equal(got, []int{1, 2, 3, 4, 5, 6}) {
		t.Errorf("that test: %v", got)
	}
	if got := []int{api.OpAdd, api.OpSub, api.OpMul, api.OpDiv, api.OpRem}; !slices.Equal(got, []int{1, 2, 3, 4, 5}) {
		t.Errorf("that reckon: %v", got)
	}
}

// P5.2: each op of each value and each other one: null, types that do not go together, and what is so.
func TestTestEachPair(t *testing.T) {
	all := rising()
	for op := api.OpEq; op <= api.OpGe; op++ {
		for i, a := range all {
			for k, b := range all {
				bools := a.Kind == api.ValBool && op > api.OpNe
				switch {
				case a.Kind == api.ValNull || b.Kind == api.ValNull:
					tests(t, op, a, b, api.TruthNull, api.OK)
				case a.Kind != b.Kind || bools:
					tests(t, op, a, b, api.TruthNo, api.ErrType)
				default:
					tests(t, op, a, b, so(op, cmp.Compare(i, k)), api.OK)
				}
			}
		}
	}
}

// P5.2: two bools are the same or not; which is more is not asked.
func TestTestBools(t *testing.T) {
	no, yes := value.Bool(false), value.Bool(true)
	for _, q := range []struct {
		a, b   api.Value
		eq, ne api.Truth
	}{
		{no, no, api.TruthYes, api.TruthNo},
		{no, yes, api.TruthNo, api.TruthYes},
		{yes, no, api.TruthNo, api.TruthYes},
		{yes, yes, api.TruthYes, api.TruthNo},
	} {
		tests(t, api.OpEq, q.a, q.b, q.eq, api.OK)
		tests(t, api.OpNe, q.a, q.b, q.ne, api.OK)
		for _, op := range []int{api.OpLt, api.OpLe, api.OpGt, api.OpGe} {
			tests(t, op, q.a, q.b, api.TruthNo, api.ErrType)
		}
	}
	for op := api.OpEq; op <= api.OpGe; op++ {
		tests(t, op, yes, value.Null(), api.TruthNull, api.OK)
		tests(t, op, value.Null(), yes, api.TruthNull, api.OK)
		tests(t, op, value.Null(), value.Null(), api.TruthNull, api.OK)
		tests(t, op, yes, value.Int(1), api.TruthNo, api.ErrType)
		tests(t, op, value.Int(1), yes, api.TruthNo, api.ErrType)
	}
}

// P5.2: numbers at each op, the edges among them.
func TestTestNumbers(t *testing.T) {
	all := numbers()
	for op := api.OpEq; op <= api.OpGe; op++ {
		for _, x := range all {
			for _, y := range []int64{math.MinInt64, math.MinInt64 + 1, -x, -1, 0, 1, x - 1, x, x + 1, math.MaxInt64 - 1, math.MaxInt64} {
				tests(t, op, value.Int(x), value.Int(y), so(op, cmp.Compare(x, y)), api.OK)
			}
		}
	}
}

// P5.2: no such op goes ahead of no such value, and that ahead of null and of types.
func TestTestWrong(t *testing.T) {
	some := append(rising()[:5:5], value.Text(""), value.Text("a"))
	for _, op := range noOps(6) {
		for _, a := range append(some, wrong()...) {
			for _, b := range some {
				tests(t, op, a, b, api.TruthNo, api.ErrArg)
				tests(t, op, b, a, api.TruthNo, api.ErrArg)
			}
		}
	}
	for op := api.OpEq; op <= api.OpGe; op++ {
		for _, a := range wrong() {
			tests(t, op, a, a, api.TruthNo, api.ErrValue)
			for _, b := range some {
				tests(t, op, a, b, api.TruthNo, api.ErrValue)
				tests(t, op, b, a, api.TruthNo, api.ErrValue)
			}
		}
	}
}

// size is how far a number is from nought.
func size(n int64) uint64 {
	if n < 0 {
		return -uint64(n)
	}
	return uint64(n)
}

// signed is a number of that size, below nought or not.
func signed(below bool, n uint64) int64 {
	if below {
		return -int64(n)
	}
	return int64(n)
}

// goesOver tells by comparing alone whether what comes of it is no number of 64 bits.
func goesOver(op int, a, b int64) bool {
	switch op {
	case api.OpAdd:
		return b > 0 && a > math.MaxInt64-b || b < 0 && a < math.MinInt64-b
	case api.OpSub:
		return b < 0 && a > math.MaxInt64+b || b > 0 && a < math.MinInt64+b
	case api.OpMul:
		most := uint64(math.MaxInt64)
		if (a < 0) != (b < 0) {
			most++
		}
		return b != 0 && size(a) > most/size(b)
	case api.OpDiv:
		return a == math.MinInt64 && b == -1
	}
	return false
}

// comes is what comes of numbers that may be so reckoned with.
func comes(op int, a, b int64) int64 {
	switch op {
	case api.OpAdd:
		return a + b
	case api.OpSub:
		return a - b
	case api.OpMul:
		return a * b
	case api.OpDiv:
		return signed((a < 0) != (b < 0), size(a)/size(b))
	}
	return signed(a < 0, size(a)%size(b))
}

// P5.3: the chapter's examples, and what stands about them.
func TestReckonExamples(t *testing.T) {
	const least, most = math.MinInt64, math.MaxInt64
	for _, q := range []struct {
		op         int
		a, b, want int64
		err        api.Errno
	}{
		{api.OpAdd, most, 1, 0, api.ErrOver}, {api.OpDiv, -7, 2, -3, api.OK}, {api.OpRem, -7, 2, -1, api.OK},
		{api.OpDiv, 7, 2, 3, api.OK}, {api.OpDiv, 7, -2, -3, api.OK}, {api.OpDiv, -7, -2, 3, api.OK},
		{api.OpRem, 7, 2, 1, api.OK}, {api.OpRem, 7, -2, 1, api.OK}, {api.OpRem, -7, -2, -1, api.OK},
		{api.OpAdd, 2, 3, 5, api.OK}, {api.OpSub, 2, 3, -1, api.OK}, {api.OpMul, -2, 3, -6, api.OK},
		{api.OpAdd, most, 0, most, api.OK}, {api.OpAdd, least, -1, 0, api.ErrOver}, {api.OpAdd, -1, least, 0, api.ErrOver},
		{api.OpAdd, least, most, -1, api.OK}, {api.OpAdd, least, least, 0, api.ErrOver}, {api.OpAdd, most, most, 0, api.ErrOver},
		{api.OpSub, least, 1, 0, api.ErrOver}, {api.OpSub, most, -1, 0, api.ErrOver}, {api.OpSub, 0, least, 0, api.ErrOver},
		{api.OpSub, -1, least, most, api.OK}, {api.OpSub, least, least, 0, api.OK}, {api.OpSub, least, most, 0, api.ErrOver},
		{api.OpSub, 0, most, -most, api.OK}, {api.OpSub, -2, most, 0, api.ErrOver}, {api.OpSub, -1, most, least, api.OK},
		{api.OpMul, least, -1, 0, api.ErrOver}, {api.OpMul, -1, least, 0, api.ErrOver}, {api.OpMul, least, 1, least, api.OK},
		{api.OpMul, least, 0, 0, api.OK}, {api.OpMul, most, -1, -most, api.OK}, {api.OpMul, 1 << 32, 1 << 31, 0, api.ErrOver},
		{api.OpMul, 1 << 32, -1 << 31, least, api.OK}, {api.OpMul, 1 << 32, 1 << 32, 0, api.ErrOver}, {api.OpMul, least, least, 0, api.ErrOver},
		{api.OpDiv, least, -1, 0, api.ErrOver}, {api.OpRem, least, -1, 0, api.OK}, {api.OpDiv, least, 1, least, api.OK},
		{api.OpDiv, most, -1, -most, api.OK}, {api.OpDiv, least, least, 1, api.OK}, {api.OpRem, most, least, most, api.OK},
		{api.OpDiv, least, 0, 0, api.ErrZero}, {api.OpRem, least, 0, 0, api.ErrZero}, {api.OpDiv, 0, 0, 0, api.ErrZero}, {api.OpRem, 0, 0, 0, api.ErrZero},
		{api.OpDiv, 0, -1, 0, api.OK}, {api.OpRem, 0, -1, 0, api.OK}, {api.OpRem, 5, -1, 0, api.OK},
	} {
		want := value.Int(q.want)
		if q.err != api.OK {
			want = api.Value{}
		}
		reckons(t, q.op, value.Int(q.a), value.Int(q.b), want, q.err)
	}
}

// P5.3: each number against each other one, at each op.
func TestReckonNumbers(t *testing.T) {
	for op := api.OpAdd; op <= api.OpRem; op++ {
		for _, x := range numbers() {
			for _, y := range numbers() {
				a, b := value.Int(x), value.Int(y)
				switch {
				case y == 0 && op >= api.OpDiv:
					reckons(t, op, a, b, api.Value{}, api.ErrZero)
				case goesOver(op, x, y):
					reckons(t, op, a, b, api.Value{}, api.ErrOver)
				default:
					reckons(t, op, a, b, value.Int(comes(op, x, y)), api.OK)
				}
			}
		}
	}
}

// P5.3: null with null or a number, a nought that it is divided by among them, is null; whatever is neither is ErrType, on either side.
func TestReckonTypes(t *testing.T) {
	null := value.Null()
	others := []api.Value{value.Bool(false), value.Bool(true), value.Text(""), value.Text("1"), value.Text(strings.Repeat("a", 64))}
	for op := api.OpAdd; op <= api.OpRem; op++ {
		reckons(t, op, null, null, null, api.OK)
		for _, n := range []int64{math.MinInt64, -1, 0, 1, math.MaxInt64} {
			reckons(t, op, null, value.Int(n), null, api.OK)
			reckons(t, op, value.Int(n), null, null, api.OK)
			for _, v := range others {
				reckons(t, op, v, value.Int(n), api.Value{}, api.ErrType)
				reckons(t, op, value.Int(n), v, api.Value{}, api.ErrType)
			}
		}
		for _, v := range others {
			reckons(t, op, v, null, api.Value{}, api.ErrType)
			reckons(t, op, null, v, api.Value{}, api.ErrType)
			for _, w := range others {
				reckons(t, op, v, w, api.Value{}, api.ErrType)
			}
		}
	}
}

// P5.3: no such op goes ahead of no such value, and that ahead of null, of types and of nought.
func TestReckonWrong(t *testing.T) {
	some := []api.Value{value.Null(), value.Bool(true), value.Int(0), value.Int(math.MinInt64), value.Text("a")}
	for _, op := range noOps(5) {
		for _, a := range append(some, wrong()...) {
			for _, b := range some {
				reckons(t, op, a, b, api.Value{}, api.ErrArg)
				reckons(t, op, b, a, api.Value{}, api.ErrArg)
			}
		}
	}
	for op := api.OpAdd; op <= api.OpRem; op++ {
		for _, a := range wrong() {
			reckons(t, op, a, a, api.Value{}, api.ErrValue)
			for _, b := range some {
				reckons(t, op, a, b, api.Value{}, api.ErrValue)
				reckons(t, op, b, a, api.Value{}, api.ErrValue)
			}
		}
	}
}

// P5.6: where a sum is told, what was added is taken off again, and so the other way round.
func TestAddAndSubLeadBack(t *testing.T) {
	back := func(op, other int, a, b api.Value) {
		c, err := value.Reckon(op, a, b)
		if err == api.OK {
			reckons(t, other, c, b, a, api.OK)
		}
	}
	for _, x := range numbers() {
		for _, y := range numbers() {
			back(api.OpAdd, api.OpSub, value.Int(x), value.Int(y))
			back(api.OpSub, api.OpAdd, value.Int(x), value.Int(y))
		}
	}
}

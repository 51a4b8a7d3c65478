package value

import (
	"math/bits"

	"tallyhouse/api"
)

// tester tells whether it is so of two values, by what Compare says of them.
type tester func(order int) bool

// reckoner is what comes of two numbers.
type reckoner func(a, b int64) (int64, api.Errno)

// Test: P5.2.
func Test(op int, a, b api.Value) (api.Truth, api.Errno) {
	all := testers()
	err := asked(op, len(all), a, b)
	switch {
	case err != api.OK:
		return api.TruthNo, err
	case a == Null() || b == Null():
		return api.TruthNull, api.OK
	case a.Kind != b.Kind, a.Kind == api.ValBool && op != api.OpEq && op != api.OpNe:
		return api.TruthNo, api.ErrType
	}
	return api.Truth(truthOf(all[op](Compare(a, b)))), api.OK
}

// Reckon: P5.3.
func Reckon(op int, a, b api.Value) (api.Value, api.Errno) {
	all := reckoners()
	err := asked(op, len(all), a, b)
	switch {
	case err != api.OK:
		return api.Value{}, err
	case !reckons(a) || !reckons(b):
		return api.Value{}, api.ErrType
	case a == Null() || b == Null():
		return Null(), api.OK
	}
	n, err := all[op](a.Num, b.Num)
	if err != api.OK {
		return api.Value{}, err
	}
	return Int(n), api.OK
}

// asked is the error that goes ahead of what an op says itself; its number is to be from 1 on, below end.
func asked(op, end int, a, b api.Value) api.Errno {
	if op < 1 || op >= end {
		return api.ErrArg
	}
	if err := Check(a); err != api.OK {
		return err
	}
	return Check(b)
}

// reckons tells whether a value may be reckoned with.
func reckons(v api.Value) bool {
	return v.Kind == api.ValNull || v.Kind == api.ValInt
}

// testers are found by the numbers of their ops; there is none of 0.
func testers() [api.OpGe + 1]tester {
	is := func(want int) tester {
		return func(order int) bool { return order == want }
	}
	isNot := func(want int) tester {
		return func(order int) bool { return order != want }
	}
	return [...]tester{
		api.OpEq: is(0),
		api.OpNe: isNot(0),
		api.OpLt: is(-1),
		api.OpLe: isNot(1),
		api.OpGt: is(1),
		api.OpGe: isNot(-1),
	}
}

// reckoners are found by the numbers of their ops; there is none of 0.
func reckoners() [api.OpRem + 1]reckoner {
	return [...]reckoner{
		api.OpAdd: add,
		api.OpSub: sub,
		api.OpMul: mul,
		api.OpDiv: notByZero(div),
		api.OpRem: notByZero(func(a, b int64) (int64, api.Errno) { return a % b, api.OK }),
	}
}

// add has gone over where both numbers have one sign, and what comes of them has the other one.
func add(a, b int64) (int64, api.Errno) {
	n := a + b
	return unless((a^n)&(b^n) < 0, n)
}

// sub has gone over where the signs are unlike, and what comes of them has not that of a.
func sub(a, b int64) (int64, api.Errno) {
	n := a - b
	return unless((a^b)&(a^n) < 0, n)
}

// mul has gone over where the upper half says more than the lower half's sign.
func mul(a, b int64) (int64, api.Errno) {
	high, low := bits.Mul64(uint64(a), uint64(b))
	// Mul64 takes a number below 0 for one that is 2^64 greater: the other number is too much in the upper half.
	high -= uint64(a>>63)&uint64(b) + uint64(b>>63)&uint64(a)
	n := int64(low)
	return unless(int64(high) != n>>63, n)
}

// div has gone over where all three signs are minus: the least number by -1.
func div(a, b int64) (int64, api.Errno) {
	n := a / b
	return unless(a&b&n < 0, n)
}

// unless is n, but where it went over.
func unless(over bool, n int64) (int64, api.Errno) {
	if over {
		return 0, api.ErrOver
	}
	return n, api.OK
}

// notByZero keeps f from a division that can't be done.
func notByZero(f reckoner) reckoner {
	return func(a, b int64) (int64, api.Errno) {
		if b == 0 {
			return 0, api.ErrZero
		}
		return f(a, b)
	}
}

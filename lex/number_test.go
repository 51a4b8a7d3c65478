package lex_test

import (
	"math"
	"strconv"
	"strings"
	"testing"
)

// P10.1: digits are a number, with noughts ahead or without.
func TestNumbers(t *testing.T) {
	for _, n := range []int64{0, 1, 7, 9, 10, 42, 255, 256, 1 << 31, 1<<32 - 1, 1 << 32, 1<<53 + 1, 999999999999999999, 1000000000000000000, 1<<62 + 3, 9223372036854775799, math.MaxInt64 - 1, math.MaxInt64} {
		digits := strconv.FormatInt(n, 10)
		for _, noughts := range []int{0, 1, 2, 18, 19, 20, 40, 1000} {
			s := strings.Repeat("0", noughts) + digits
			lexes(t, s, put(num(n), 0, len(s)))
			lexes(t, "-"+s+"*", put(sign("-"), 0, 1), put(num(n), 1, 1+len(s)), put(sign("*"), 1+len(s), 2+len(s)))
		}
	}
	lexes(t, strings.Repeat("0", 1024), put(num(0), 0, 1024))
	lexes(t, strings.Repeat("0", 1023)+"8", put(num(8), 0, 1024))
	lexes(t, "1 2", put(num(1), 0, 1), put(num(2), 2, 3))
	lexes(t, "1.5", put(num(1), 0, 1), put(sign("."), 1, 2), put(num(5), 2, 3))
	lexes(t, "1'2'3", put(num(1), 0, 1), put(text("2"), 1, 4), put(num(3), 4, 5))
}

// P10.1: a number above 2^63 - 1 is told where it begins, with noughts ahead or without.
func TestGreatNumbers(t *testing.T) {
	for _, s := range []string{
		"9223372036854775808", "9223372036854775809", "9223372036854775810", "9223372036854775900", "9300000000000000000", "9999999999999999999", "10000000000000000000", "10223372036854775807",
		"18446744073709551615", "18446744073709551616", "18446744073709551617", "18446744073709551623", "36893488147419103233", "92233720368547758070", "340282366920938463463374607431768211457",
		"1" + strings.Repeat("0", 100), strings.Repeat("9", 300), "1" + strings.Repeat("0", 900),
	} {
		for _, noughts := range []int{0, 1, 20, 100} {
			own := strings.Repeat("0", noughts) + s
			fails(t, own, 201, 0)
			fails(t, "a\n"+own+" b", 201, 2)
			fails(t, own+"x", 201, 0)
			fails(t, "-"+own, 201, 1)
		}
	}
}

// P10.1: each byte behind a number: a letter or _ makes it none, a digit goes on, all else is behind it.
func TestBytesBehindNumbers(t *testing.T) {
	for n := range 256 {
		b := string([]byte{byte(n)})
		for _, s := range []string{"0", "12", "007", "9223372036854775807"} {
			letter := n >= 'a' && n <= 'z' || n >= 'A' && n <= 'Z' || n == '_'
			if letter {
				fails(t, s+b, 201, 0)
				fails(t, s+b+"1", 201, 0)
				fails(t, ";"+s+b+" ", 201, 1)
				lexes(t, s+" "+b, put(num(value(s)), 0, len(s)), put(name(b), 1+len(s), 2+len(s)))
			}
			like(t, s+b)
			like(t, s+b+s)
			like(t, s+b+"x")
		}
	}
	fails(t, "12select", 201, 0)
	fails(t, "1e5", 201, 0)
	fails(t, "0x1f", 201, 0)
	fails(t, "1_000", 201, 0)
	fails(t, "12\x00", 200, 2)
	fails(t, "12\u00e9", 200, 2)
	fails(t, "12:", 200, 2)
	fails(t, "12@", 200, 2)
	fails(t, "12[", 200, 2)
	fails(t, "12`", 200, 2)
	fails(t, "12{", 200, 2)
	fails(t, "12^", 200, 2)
}

func value(s string) int64 {
	n, _ := strconv.ParseInt(s, 10, 64)
	return n
}

package lex_test

import (
	"slices"
	"strings"
	"testing"

	"tallyhouse/api"
)

// P10.1: each sign, alone, among words, and behind a blank.
func TestSigns(t *testing.T) {
	if len(signs) != 16 {
		t.Fatal(signs)
	}
	for _, s := range signs {
		lexes(t, s, put(sign(s), 0, len(s)))
		lexes(t, "a"+s+"b", put(name("a"), 0, 1), put(sign(s), 1, 1+len(s)), put(name("b"), 1+len(s), 2+len(s)))
		lexes(t, "1"+s+"2", put(num(1), 0, 1), put(sign(s), 1, 1+len(s)), put(num(2), 1+len(s), 2+len(s)))
		lexes(t, "'a'"+s+"'b'", put(text("a"), 0, 3), put(sign(s), 3, 3+len(s)), put(text("b"), 3+len(s), 6+len(s)))
		lexes(t, s+" "+s, put(sign(s), 0, len(s)), put(sign(s), 1+len(s), 1+2*len(s)))
		prints(t, s, sign(s))
		prints(t, s+" "+s, sign(s), sign(s))
	}
}

// P10.1: two signs one behind the other are one token just if they are <=, >= or <>; two signs - are a remark.
func TestPairsOfSigns(t *testing.T) {
	for _, a := range signs {
		for _, b := range signs {
			like(t, a+b)
			like(t, a+b+a)
			lexes(t, a+" "+b, put(sign(a), 0, len(a)), put(sign(b), 1+len(a), 1+len(a)+len(b)))
			if len(a) > 1 || len(b) > 1 || slices.Contains(signs, a+b) || a+b == "--" {
				continue
			}
			lexes(t, a+b, put(sign(a), 0, 1), put(sign(b), 1, 2))
		}
	}
	for _, s := range []string{"<=", ">=", "<>"} {
		lexes(t, s, put(sign(s), 0, 2))
		lexes(t, s+"=", put(sign(s), 0, 2), put(sign("="), 2, 3))
		lexes(t, s+"<", put(sign(s), 0, 2), put(sign("<"), 2, 3))
		lexes(t, s+">", put(sign(s), 0, 2), put(sign(">"), 2, 3))
		lexes(t, s+s, put(sign(s), 0, 2), put(sign(s), 2, 4))
	}
	lexes(t, "=<", put(sign("="), 0, 1), put(sign("<"), 1, 2))
	lexes(t, "=>", put(sign("="), 0, 1), put(sign(">"), 1, 2))
	lexes(t, "><", put(sign(">"), 0, 1), put(sign("<"), 1, 2))
	lexes(t, "==", put(sign("="), 0, 1), put(sign("="), 1, 2))
	lexes(t, "<<", put(sign("<"), 0, 1), put(sign("<"), 1, 2))
	lexes(t, "<<=", put(sign("<"), 0, 1), put(sign("<="), 1, 3))
	lexes(t, ">>=", put(sign(">"), 0, 1), put(sign(">="), 1, 3))
	lexes(t, "<<>", put(sign("<"), 0, 1), put(sign("<>"), 1, 3))
	lexes(t, "< =", put(sign("<"), 0, 1), put(sign("="), 2, 3))
	lexes(t, "<--\n=", put(sign("<"), 0, 1), put(sign("="), 4, 5))
	lexes(t, "<-", put(sign("<"), 0, 1), put(sign("-"), 1, 2))
	lexes(t, "-<>-", put(sign("-"), 0, 1), put(sign("<>"), 1, 3), put(sign("-"), 3, 4))
}

// P10.1: rows of three signs, and of four of those that may be one.
func TestRowsOfSigns(t *testing.T) {
	for _, a := range signs {
		for _, b := range signs {
			for _, c := range signs {
				like(t, a+b+c)
			}
		}
	}
	few := []string{"<", ">", "=", "-", " ", "\n"}
	for _, a := range few {
		for _, b := range few {
			for _, c := range few {
				for _, d := range few {
					like(t, a+b+c+d)
				}
			}
		}
	}
}

// P10.1: each byte where a token would have to begin: what is neither a blank nor begins one is told there.
func TestBytesThatBegin(t *testing.T) {
	none := 0
	for n := range 256 {
		b := string([]byte{byte(n)})
		for _, s := range []string{b, b + " ", "x " + b, "x " + b + " y", "1;" + b, "'a'," + b, "-- #\n" + b, b + b, "x " + b + "=", strings.Repeat(" ", 1023) + b} {
			like(t, s)
		}
		if n < 128 && strings.Contains("\t\n\r 0123456789'_(),;=<>+-*/%.abcdefghijklmnopqrstuvwxyzABCDEFGHIJKLMNOPQRSTUVWXYZ", b) {
			continue
		}
		none++
		fails(t, b, 200, 0)
		fails(t, "a"+b, 200, 1)
		fails(t, "select "+b+" x", 200, 7)
		fails(t, "1"+b, 200, 1)
		fails(t, "<="+b, 200, 2)
		fails(t, "'a'"+b, 200, 3)
		fails(t, "--\n"+b, 200, 3)
		fails(t, strings.Repeat(" ", 1023)+b, 200, 1023)
		lexes(t, "--"+b+"\nx", put(name("x"), 4, 5))
		mayNot(t, "no sign", sign(b))
	}
	if none != 256-4-10-2-13-52 {
		t.Error(none)
	}
}

// P10.1: each byte behind a sign.
func TestBytesBehindSigns(t *testing.T) {
	for _, s := range signs {
		for n := range 256 {
			b := string([]byte{byte(n)})
			like(t, s+b)
			like(t, s+b+"x")
			if !slices.Contains(signs, s+b) {
				mayNot(t, "a sign and more", api.Tok{Kind: 5, Text: s + b})
			}
		}
	}
}

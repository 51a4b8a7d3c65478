package lex_test

import (
	"strings"
	"testing"
)

// P10.1: the four bytes that are blanks, alone, in rows, ahead of tokens, between them and behind them.
func TestBlanks(t *testing.T) {
	lexes(t, "")
	for _, a := range []string{"\t", "\n", "\r", " "} {
		lexes(t, a)
		lexes(t, a+"x", put(name("x"), 1, 2))
		lexes(t, "x"+a, put(name("x"), 0, 1))
		lexes(t, "1"+a+"x", put(num(1), 0, 1), put(name("x"), 2, 3))
		lexes(t, "<"+a+"=", put(sign("<"), 0, 1), put(sign("="), 2, 3))
		lexes(t, "'a'"+a+"'b'", put(text("a"), 0, 3), put(text("b"), 4, 7))
		for _, b := range []string{"\t", "\n", "\r", " "} {
			lexes(t, a+b)
			lexes(t, a+b+"x"+b+a+"y", put(name("x"), 2, 3), put(name("y"), 5, 6))
		}
	}
	lexes(t, strings.Repeat(" \t\r\n", 256))
	lexes(t, strings.Repeat(" ", 1023)+"x", put(name("x"), 1023, 1024))
}

// P10.1: bytes near the blanks, and what looks like one elsewhere, begin nothing.
func TestNoBlanks(t *testing.T) {
	for _, s := range []string{"\x00", "\x08", "\x0b", "\x0c", "\x0e", "\x1f", "\x7f", "\x85", "\xa0", "\u00a0", "\u0085", "\u2028", "\ufeff"} {
		fails(t, s, 200, 0)
		fails(t, "x "+s+" y", 200, 2)
	}
}

// P10.1: a remark goes up to the next line feed, or to the end; whatever else stands there is in it.
func TestRemarks(t *testing.T) {
	lexes(t, "--")
	lexes(t, "--\n")
	lexes(t, "---")
	lexes(t, "----")
	lexes(t, "--x")
	lexes(t, "--\nx", put(name("x"), 3, 4))
	lexes(t, "---\nx", put(name("x"), 4, 5))
	lexes(t, "--x\ny", put(name("y"), 4, 5))
	lexes(t, "-- 'a\nx", put(name("x"), 6, 7))
	lexes(t, "-- a'\n'x'", put(text("x"), 6, 9))
	lexes(t, "--a--\nx", put(name("x"), 6, 7))
	lexes(t, "--a--b\n--c\nx--d\ny--e", put(name("x"), 11, 12), put(name("y"), 16, 17))
	lexes(t, "a--b\nc", put(name("a"), 0, 1), put(name("c"), 5, 6))
	lexes(t, "1--2\n3", put(num(1), 0, 1), put(num(3), 5, 6))
	lexes(t, "'a'--'\n'b'", put(text("a"), 0, 3), put(text("b"), 7, 10))
	lexes(t, "<--=\n=", put(sign("<"), 0, 1), put(sign("="), 5, 6))
	lexes(t, "select--x\n*", put(key("SELECT"), 0, 6), put(sign("*"), 10, 11))
	lexes(t, "--"+strings.Repeat("-", 1022))
	lexes(t, strings.Repeat("--\n", 341)+"z", put(name("z"), 1023, 1024))
	fails(t, "--\n#", 200, 3)
	fails(t, "--x\n\n12a", 201, 5)
}

// P10.1: nothing but a line feed ends a remark.
func TestEndOfRemark(t *testing.T) {
	for _, s := range []string{"\r", "\x00", "\x0b", "\x0c", "\x85", "\u0085", "\u2028", "'", ";", "--", "*/", "\\n"} {
		lexes(t, "--"+s+"#")
		lexes(t, "--"+s+"#\nx", put(name("x"), 4+len(s), 5+len(s)))
	}
	lexes(t, "--\r\nx", put(name("x"), 4, 5))
}

// P10.1: one sign - is a sign; two are one only where something stands between them; in a quoted text they begin no remark.
func TestDashes(t *testing.T) {
	lexes(t, "-", put(sign("-"), 0, 1))
	lexes(t, "-x", put(sign("-"), 0, 1), put(name("x"), 1, 2))
	lexes(t, "x-", put(name("x"), 0, 1), put(sign("-"), 1, 2))
	lexes(t, "- ", put(sign("-"), 0, 1))
	lexes(t, "-\n-", put(sign("-"), 0, 1), put(sign("-"), 2, 3))
	lexes(t, "- - -", put(sign("-"), 0, 1), put(sign("-"), 2, 3), put(sign("-"), 4, 5))
	lexes(t, "- --", put(sign("-"), 0, 1))
	lexes(t, "- -- -\n-", put(sign("-"), 0, 1), put(sign("-"), 7, 8))
	lexes(t, "-+-", put(sign("-"), 0, 1), put(sign("+"), 1, 2), put(sign("-"), 2, 3))
	lexes(t, "'--'", put(text("--"), 0, 4))
	lexes(t, "'--' x", put(text("--"), 0, 4), put(name("x"), 5, 6))
	lexes(t, "'a--b'-1", put(text("a--b"), 0, 6), put(sign("-"), 6, 7), put(num(1), 7, 8))
	fails(t, "'--\n'", 200, 0)
}

package lex_test

import (
	"strings"
	"testing"

	"tallyhouse/api"
	"tallyhouse/lex"
)

// many are so many tokens of a text of signs, one behind the other.
func many(count int) []api.Tok {
	var out []api.Tok
	for i := range count {
		out = append(out, put(sign("*"), i, i+1))
	}
	return out
}

// P10.1: a text has at most 1024 bytes; of one more ErrLong at 0, whatever it is.
func TestLongTexts(t *testing.T) {
	for _, s := range []string{"x ", " ", "'a' ", "--", "\n", "#", "12a ", "x+1;", "\x00", "'", "abcdefghijklmnopqrstuvwxyz "} {
		long := strings.Repeat(s, 1025)[:1025]
		fails(t, long, api.ErrLong, 0)
		fails(t, " "+long[:1024], api.ErrLong, 0)
		like(t, long[:1024])
		if _, spot := lex.Lex(long[1:]); spot.Err == api.ErrLong && spot.At == 0 {
			t.Errorf("%q: of 1024 bytes", long[1:])
		}
	}
	lexes(t, "x"+strings.Repeat(" ", 1023), put(name("x"), 0, 1))
	fails(t, "x"+strings.Repeat(" ", 1024), api.ErrLong, 0)
	lexes(t, strings.Repeat(" ", 1020)+"'it'", put(text("it"), 1020, 1024))
	lexes(t, strings.Repeat("\n", 1018)+"select", put(key("SELECT"), 1018, 1024))
	lexes(t, strings.Repeat("\r", 1000)+strings.Repeat("z", 24), put(name(strings.Repeat("z", 24)), 1000, 1024))
	lexes(t, "--"+strings.Repeat("#", 1022))
	fails(t, strings.Repeat("x", 1<<20), api.ErrLong, 0)
	fails(t, strings.Repeat(" ", 1<<20), api.ErrLong, 0)
}

// P10.1: at most 300 tokens; one more is told where it would begin.
func TestManyTokens(t *testing.T) {
	for count := 298; count <= 300; count++ {
		lexes(t, strings.Repeat("*", count), many(count)...)
		lexes(t, strings.Repeat("*", count)+" -- *\n", many(count)...)
	}
	for count := 301; count <= 1024; count += 41 {
		fails(t, strings.Repeat("*", count), api.ErrLong, 300)
	}
	fails(t, strings.Repeat("*", 301), api.ErrLong, 300)
	fails(t, strings.Repeat("*", 1024), api.ErrLong, 300)
	fails(t, strings.Repeat("a ", 512), api.ErrLong, 600)
	for _, s := range []string{"x", "select", "0", "'a'", "''", "<=", ";", "9223372036854775807", "-", strings.Repeat("y", 24)} {
		fails(t, strings.Repeat("*", 300)+s, api.ErrLong, 300)
		fails(t, strings.Repeat("*", 300)+" \n--*\n"+s+" #", api.ErrLong, 306)
		fails(t, strings.Repeat("+ ", 300)+s, api.ErrLong, 600)
		fails(t, strings.Repeat("*", 299)+" "+s+";x", api.ErrLong, 300+len(s))
		if _, spot := lex.Lex(strings.Repeat("* ", 299) + s); spot != (api.Spot{}) {
			t.Errorf("%q is one too many: %d at %d", s, spot.Err, spot.At)
		}
	}
}

// P10.1: what is wrong behind the last token that may be goes ahead of one too many; behind the first one too many nothing is told.
func TestFaultsBehindManyTokens(t *testing.T) {
	full := strings.Repeat("*", 300)
	for _, q := range faults() {
		fails(t, full+q.text, q.err, 300)
		fails(t, full+" --x\n "+q.text, q.err, 306)
		fails(t, full+"x;"+q.text, api.ErrLong, 300)
		fails(t, full+";"+q.text, api.ErrLong, 300)
		fails(t, strings.Repeat("*", 299)+q.text, q.err, 299)
		fails(t, strings.Repeat("*", 299)+";"+q.text, q.err, 300)
	}
}

// fault is what begins no token, or a number that is none, and how it is told.
type fault struct {
	text string
	err  api.Errno
}

// faults are wrong whatever stands behind them, if that begins with a line feed, which no quoted text has.
func faults() []fault {
	return []fault{
		{"#", 200}, {"\x00", 200}, {"\xff", 200}, {"\u00e9", 200}, {":", 200}, {"!=", 200}, {"\"a\"", 200}, {"@a", 200}, {"[", 200}, {"{", 200}, {"\\", 200}, {"|", 200}, {"&", 200}, {"^", 200}, {"?", 200}, {"$1", 200}, {"`a`", 200}, {"~", 200},
		{"'", 200}, {"'a", 200}, {"'\x00'", 200}, {"'\x7f'", 200}, {"'a\n'", 200}, {"'''", 200}, {"'a''", 200},
		{strings.Repeat("n", 25), 200}, {"_" + strings.Repeat("9", 24), 200},
		{"'" + strings.Repeat("q", 65) + "'", 200}, {"'" + strings.Repeat("''", 65) + "'", 200},
		{"12a", 201}, {"0_", 201}, {"1x1", 201}, {"9223372036854775808", 201}, {"99999999999999999999x", 201}, {"0009223372036854775808", 201},
	}
}

// P10.1: the first of two faults is told, place by place; not the one that the chapter names first.
func TestFirstOfTwoFaults(t *testing.T) {
	for _, a := range faults() {
		fails(t, a.text, a.err, 0)
		fails(t, " \t"+a.text, a.err, 2)
		fails(t, "select x, "+a.text, a.err, 10)
		for _, b := range faults() {
			fails(t, a.text+"\n"+b.text, a.err, 0)
			fails(t, "a + "+a.text+"\n\n"+b.text+" c", a.err, 4)
			fails(t, "-- "+b.text[:1]+"\n"+a.text+"\n"+b.text, a.err, 5)
		}
		fails(t, a.text+" "+strings.Repeat("*", 400), a.err, 0)
	}
	fails(t, "12a #", 201, 0)
	fails(t, "# 12a", 200, 0)
	fails(t, "x 'a 12b", 200, 2)
	fails(t, "x 12b 'a", 201, 2)
	fails(t, "x 1 12b 'a", 201, 4)
}

// P10.1: each byte within a remark is in it; a line feed ends it.
func TestBytesOfRemarks(t *testing.T) {
	for n := range 256 {
		b := string([]byte{byte(n)})
		if n == '\n' {
			fails(t, "--a"+b+"#", 200, 4)
			lexes(t, "x--"+b+"y", put(name("x"), 0, 1), put(name("y"), 4, 5))
			continue
		}
		for _, s := range []string{b, "a" + b, b + "a", "-" + b, b + "-", b + b, b + "#'"} {
			lexes(t, "--"+s)
			lexes(t, "x--"+s, put(name("x"), 0, 1))
			lexes(t, "--"+s+"\ny", put(name("y"), 3+len(s), 4+len(s)))
		}
	}
}

// P10.1: each two bytes alone, and between words.
func TestPairsOfBytes(t *testing.T) {
	for a := range 256 {
		for b := range 256 {
			two := string([]byte{byte(a), byte(b)})
			like(t, two)
			like(t, "a"+two+"1")
			like(t, "1"+two+"'")
			like(t, "'"+two+"'")
		}
	}
}

// P10.1: each row of up to six of the bytes with which most begins or ends.
func TestRowsOfBytes(t *testing.T) {
	few := "'a1 -\n<=#"
	var row func(s string)
	row = func(s string) {
		like(t, s)
		if len(s) < 6 {
			for i := range len(few) {
				row(s + few[i:i+1])
			}
		}
	}
	row("")
}

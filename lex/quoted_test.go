package lex_test

import (
	"strings"
	"testing"

	"tallyhouse/lex"
)

// P10.1: what stands between two signs ' is said, each sign ' once.
func TestQuoted(t *testing.T) {
	for _, s := range []string{"", "a", " ", "~", "'", "''", "'''", "a'", "'a", "a'b", "it's", "'a'b'", "a''b", "' '", "--", "-- x", "select", "12a", "#", "\"", "\\", "\\'", "%d", ";", "  a  "} {
		own := modelQuote(s)
		lexes(t, own, put(text(s), 0, len(own)))
		lexes(t, "x"+own+"y", put(name("x"), 0, 1), put(text(s), 1, 1+len(own)), put(name("y"), 1+len(own), 2+len(own)))
		lexes(t, own+" "+own, put(text(s), 0, len(own)), put(text(s), 1+len(own), 1+2*len(own)))
		lexes(t, own+";"+own, put(text(s), 0, len(own)), put(sign(";"), len(own), 1+len(own)), put(text(s), 1+len(own), 1+2*len(own)))
		lexes(t, own+own, put(text(s+"'"+s), 0, 2*len(own)))
		lexes(t, "1"+own+"2", put(num(1), 0, 1), put(text(s), 1, 1+len(own)), put(num(2), 1+len(own), 2+len(own)))
	}
	lexes(t, "''''", put(text("'"), 0, 4))
	lexes(t, "'''a'", put(text("'a"), 0, 5))
	lexes(t, "'a'''", put(text("a'"), 0, 5))
	lexes(t, "'a''''b'", put(text("a''b"), 0, 8))
	lexes(t, "'' ''", put(text(""), 0, 2), put(text(""), 3, 5))
	lexes(t, "'a'-'b'", put(text("a"), 0, 3), put(sign("-"), 3, 4), put(text("b"), 4, 7))
}

// P10.1: a quoted text that does not end is told where it begins; two signs ' do not end it.
func TestQuotedWithoutEnd(t *testing.T) {
	for _, s := range []string{"'", "'a", "'''", "'a''", "''a'", "'''''", "'a''b", "'''a", "'a'''' ", "' ", "'a;", "'a--'' b", "'select"} {
		if s == "''a'" {
			fails(t, s, 200, 3)
			continue
		}
		fails(t, s, 200, 0)
		fails(t, "x, "+s, 200, 3)
		fails(t, "--'\n"+s, 200, 4)
		fails(t, "'b' "+s, 200, 4)
	}
	fails(t, "'a' '", 200, 4)
	fails(t, "'a' ' ", 200, 4)
	fails(t, strings.Repeat("'", 1023), 200, 0)
	fails(t, "'"+strings.Repeat("a", 1023), 200, 0)
}

// P10.1: each byte within a quoted text, at its beginning, at its end, behind a sign ' that is said, and with no end behind it.
func TestBytesOfQuoted(t *testing.T) {
	for n := range 256 {
		b := string([]byte{byte(n)})
		if n == '\'' {
			continue
		}
		for _, s := range []string{b, b + "a", "a" + b, "a" + b + "c", "''" + b, b + "''", b + b, strings.Repeat("x", 63) + b} {
			own := "'" + s + "'"
			if n < 32 || n > 126 {
				fails(t, own, 200, 0)
				fails(t, "x "+own+" y", 200, 2)
				mayNot(t, "a byte that a text has not", text(strings.ReplaceAll(s, "''", "'")))
				continue
			}
			lexes(t, own, put(text(strings.ReplaceAll(s, "''", "'")), 0, len(own)))
		}
		fails(t, "'"+b, 200, 0)
		fails(t, "'a"+b+"a", 200, 0)
		like(t, "'a'"+b)
		like(t, "'a'"+b+"'a'")
	}
	fails(t, "'a\nb'", 200, 0)
	fails(t, "'a\u00e9'", 200, 0)
}

// P10.1: a quoted text says at most 64 bytes, each sign ' counted once.
func TestLongQuoted(t *testing.T) {
	for size := range 140 {
		for _, s := range []string{
			strings.Repeat("q", size),
			strings.Repeat("'", size),
			strings.Repeat("'q", size)[:size],
			strings.Repeat("q", max(size, 1)-1) + "'",
			"'" + strings.Repeat("q", max(size, 1)-1),
			strings.Repeat("q", size/2) + "'" + strings.Repeat("q", max(size, 1)-size/2-1),
			strings.Repeat(" ", size),
		} {
			own := modelQuote(s)
			if len(s) <= 64 {
				lexes(t, own, put(text(s), 0, len(own)))
				lexes(t, "a="+own, put(name("a"), 0, 1), put(sign("="), 1, 2), put(text(s), 2, 2+len(own)))
				prints(t, own, text(s))
				continue
			}
			fails(t, own, 200, 0)
			fails(t, "a="+own+"#", 200, 2)
			mayNot(t, "too long", text(s))
		}
	}
	fails(t, "'"+strings.Repeat("q", 1022)+"'", 200, 0)
	fails(t, "'"+strings.Repeat("''", 511)+"'", 200, 0)
	// The longest one counts, though a part of it would be short enough.
	fails(t, "'"+strings.Repeat("q", 64)+"''q'", 200, 0)
	lexes(t, "'"+strings.Repeat("q", 64)+"' 'q'", put(text(strings.Repeat("q", 64)), 0, 66), put(text("q"), 67, 70))
}

// P10.2: Quote takes whatever bytes, as many as they are.
func TestQuote(t *testing.T) {
	for s, want := range map[string]string{
		"":              "''",
		"a":             "'a'",
		"'":             "''''",
		"''":            "''''''",
		"it's":          "'it''s'",
		"'a":            "'''a'",
		"a'":            "'a'''",
		"\x00\n\xff":    "'\x00\n\xff'",
		"\u00e9'\xc3":   "'\u00e9''\xc3'",
		"\\'":           "'\\'''",
		"\u2019\xe2'\"": "'\u2019\xe2''\"'",
	} {
		if got := lex.Quote(s); got != want {
			t.Errorf("Quote(%q): %q", s, got)
		}
	}
	for n := range 256 {
		b := string([]byte{byte(n)})
		for _, s := range []string{b, "a" + b, b + "a", "'" + b, b + "'", b + b} {
			if got := lex.Quote(s); got != modelQuote(s) {
				t.Errorf("Quote(%q): %q", s, got)
			}
		}
	}
	for _, s := range []string{strings.Repeat("'", 100000), strings.Repeat("ab'", 100000), strings.Repeat("x", 65)} {
		if lex.Quote(s) != modelQuote(s) {
			t.Errorf("Quote of %d bytes", len(s))
		}
	}
}

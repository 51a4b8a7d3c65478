package lex_test

import (
	"regexp"
	"slices"
	"strings"
	"testing"

	"tallyhouse/api"
	"tallyhouse/lex"
)

// between is what may stand between two tokens; a remark at the end may have no line feed.
var between = regexp.MustCompile(`\A(?:[\t\n\r ]|--[^\n]*(?:\n|\z))*\z`)

// P10.4: Lex of Print is the same tokens, each where the blanks of Print put it.
func TestLexOfPrint(t *testing.T) {
	c := chance(6)
	for range 20000 {
		l := c.toks(12)
		s, err := lex.Print(l)
		if err == api.ErrLong {
			continue
		}
		if err != api.OK {
			t.Fatalf("%s: %d", said(l), err)
		}
		back, spot := lex.Lex(s)
		if !lex.Same(l, back) || !modelSame(l, back) || spot != (api.Spot{}) {
			t.Fatalf("%s: %q: %s, %d at %d", said(l), s, said(back), spot.Err, spot.At)
		}
		end := -1
		for _, tok := range back {
			if tok.At != end+1 || s[tok.At:tok.To] != modelText(tok) {
				t.Fatalf("%q: %s", s, said(back))
			}
			end = tok.To
		}
		if len(back) > 0 && end != len(s) {
			t.Fatalf("%q: %s", s, said(back))
		}
		again, err := lex.Print(back)
		if again != s || err != api.OK {
			t.Fatalf("%q: %q, %d", s, again, err)
		}
	}
}

// P10.4: Lex of Print of each two tokens one behind the other, of each Kind.
func TestLexOfPrintOfPairs(t *testing.T) {
	for _, a := range rightToks() {
		for _, b := range rightToks() {
			l := []api.Tok{a, b}
			s, err := lex.Print(l)
			back, spot := lex.Lex(s)
			if err != api.OK || spot != (api.Spot{}) || !lex.Same(l, back) {
				t.Fatalf("%s: %q, %d: %s, %d at %d", said(l), s, err, said(back), spot.Err, spot.At)
			}
		}
	}
}

// P10.4: the most tokens, and the longest texts, lead back too.
func TestLexOfPrintAtLimits(t *testing.T) {
	for _, l := range [][]api.Tok{many(300), append(long(102), name("it_s")), append(long(102), text("'")), slices.Repeat([]api.Tok{text(strings.Repeat("'", 64))}, 7), slices.Repeat([]api.Tok{num(1), text("")}, 150)} {
		s, err := lex.Print(l)
		if back, spot := lex.Lex(s); err != api.OK || spot != (api.Spot{}) || !lex.Same(l, back) {
			t.Errorf("%s: %q, %d: %s, %d at %d", said(l), s, err, said(back), spot.Err, spot.At)
		}
	}
}

// standing fails the test where a text's tokens may not be, or do not stand one behind the other with blanks and remarks between them.
func standing(t *testing.T, s string, l []api.Tok) {
	t.Helper()
	if err := lex.Check(l); err != api.OK || modelCheck(l) != api.OK {
		t.Fatalf("%q: %s may not be", s, said(l))
	}
	end := 0
	for _, tok := range l {
		if tok.At < end || tok.To <= tok.At || tok.To > len(s) || !between.MatchString(s[end:tok.At]) {
			t.Fatalf("%q: %s", s, said(l))
		}
		own := s[tok.At:tok.To]
		back, spot := lex.Lex(own)
		if spot != (api.Spot{}) || !slices.Equal(back, []api.Tok{put(tok, 0, len(own))}) {
			t.Fatalf("%q: %q: %s, %d", s, own, said(back), spot.Err)
		}
		end = tok.To
	}
	if !between.MatchString(s[end:]) {
		t.Fatalf("%q: %s, and more", s, said(l))
	}
}

// P10.4: the tokens of a text may be, and stand one behind the other; what is between two of them is blanks and remarks.
func TestTokensStand(t *testing.T) {
	c := chance(7)
	right := 0
	for range 60000 {
		s := c.sql(6)
		l, spot := lex.Lex(s)
		if spot == (api.Spot{}) {
			standing(t, s, l)
			right++
		}
	}
	if right < 10000 {
		t.Error(right)
	}
}

// P10.4: a text that is made of tokens, of blanks and of remarks has just those tokens, where they were put.
func TestTokensPut(t *testing.T) {
	c := chance(8)
	for range 20000 {
		var b strings.Builder
		var want []api.Tok
		b.WriteString(c.blanks(false))
		for range c.pick(8) {
			tok, at := c.tok(), b.Len()
			own := modelText(tok)
			if tok.Kind == 1 {
				own = c.cased(own)
			}
			b.WriteString(own)
			want = append(want, put(tok, at, b.Len()))
			if own == "-" {
				b.WriteByte(' ')
			}
			b.WriteString(c.blanks(true))
		}
		s := b.String()
		if len(s) <= 1024 {
			lexes(t, s, want...)
			standing(t, s, want)
		}
		if t.Failed() {
			return
		}
	}
}

// P10.4: a text with blanks, or a remark and a line feed, at its beginning has the same tokens, or the same fault, further on.
func TestFurtherOn(t *testing.T) {
	c := chance(9)
	for i := range 40000 {
		s := c.sql(6)
		ahead := c.blanks(true)
		if i%3 == 0 {
			ahead = "--" + c.some("a'-#\x00\xff 1\r", 5) + "\n"
		}
		if len(ahead)+len(s) > 1024 {
			continue
		}
		want, at := lex.Lex(s)
		for i := range want {
			want[i].At += len(ahead)
			want[i].To += len(ahead)
		}
		if at.Err != api.OK {
			at.At += len(ahead)
		}
		got, spot := lex.Lex(ahead + s)
		if !slices.Equal(got, want) || spot != at {
			t.Fatalf("%q behind %q: %s, %d at %d; not %s, %d at %d", s, ahead, said(got), spot.Err, spot.At, said(want), at.Err, at.At)
		}
		if !lex.Same(got, want) {
			t.Fatalf("%q behind %q: not the same", s, ahead)
		}
	}
}

// P10.4: what stands behind the place of a fault changes nothing of it, where it begins with a line feed.
func TestBehindFaults(t *testing.T) {
	c := chance(10)
	for range 20000 {
		s := c.sql(4)
		_, at := lex.Lex(s)
		more := "\n" + c.sql(4)
		if at.Err == api.OK || len(s)+len(more) > 1024 {
			continue
		}
		if l, spot := lex.Lex(s + more); len(l) > 0 || spot != at {
			t.Fatalf("%q, %q behind it: %d at %d, not %d at %d", s, more, spot.Err, spot.At, at.Err, at.At)
		}
	}
}

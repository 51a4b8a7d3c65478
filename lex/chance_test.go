package lex_test

import (
	"math"
	"strings"
	"testing"

	"tallyhouse/api"
	"tallyhouse/lex"
)

// chance picks by a row that is always the same.
type chance uint64

// pick is a number below n.
func (c *chance) pick(n int) int {
	*c = *c*6364136223846793005 + 1442695040888963407
	return int(uint64(*c) >> 33 % uint64(n))
}

// oneIn is true one time in n.
func (c *chance) oneIn(n int) bool {
	return c.pick(n) == 0
}

// some are up to most bytes of these.
func (c *chance) some(of string, most int) string {
	var b strings.Builder
	for range c.pick(most + 1) {
		b.WriteByte(of[c.pick(len(of))])
	}
	return b.String()
}

// cased is a word, each letter in either case.
func (c *chance) cased(word string) string {
	b := []byte(word)
	for i := range b {
		if c.oneIn(2) {
			b[i] |= 32
		}
	}
	return string(b)
}

// tok is one that may be.
func (c *chance) tok() api.Tok {
	switch c.pick(6) {
	case 0:
		return key(words[c.pick(len(words))])
	case 1:
		own := c.some("abnoSELIT_", 1+c.pick(6)) + c.some("a1_Z", 2)
		if modelName(own) {
			return name(own)
		}
		return name("n" + strings.Repeat("9", c.pick(24)))
	case 2:
		return num(int64(uint64(c.pick(math.MaxInt32)) * uint64(c.pick(math.MaxInt32)) >> c.pick(62)))
	case 3:
		return text(c.some("a' ~-#", c.pick(12)))
	case 4:
		return text(c.some("'q", 64))
	}
	return sign(signs[c.pick(len(signs))])
}

// toks are up to most tokens that may be, at whatever places.
func (c *chance) toks(most int) []api.Tok {
	var out []api.Tok
	for range c.pick(most + 1) {
		out = append(out, put(c.tok(), c.pick(2000)-50, c.pick(2000)-50))
	}
	return out
}

// spoilt is a token of which something is another one; most of them may not be.
func (c *chance) spoilt(tok api.Tok) api.Tok {
	switch c.pick(5) {
	case 0:
		tok.Kind = c.pick(8) - 1
	case 1:
		tok.Num = int64(c.pick(5)) - 2
	case 2:
		tok.Text += c.some("a'\x00 <=1", 3)
	case 3:
		tok.Text = c.cased(tok.Text)
	default:
		tok.Text = c.some("SELECTn1 '<=>", 3)
	}
	return tok
}

// blanks are blanks and remarks; at least one byte, where there has to be something.
func (c *chance) blanks(must bool) string {
	out := c.some(" \t\r\n", 2)
	if c.oneIn(4) {
		out += "--" + c.some("a'-#\x00\xff 1", 5) + "\n"
	}
	if must && out == "" {
		return " "
	}
	return out
}

// piece is part of a text, of which most are tokens.
func (c *chance) piece() string {
	switch c.pick(12) {
	case 0:
		return c.blanks(true)
	case 1:
		return c.cased(words[c.pick(len(words))])
	case 2:
		return c.some("0123456789", 3) + c.some("9", 20)
	case 3:
		return c.some("'", 4) + c.some("qr'", 3)
	case 4:
		return string([]byte{byte(c.pick(256))})
	case 5:
		return c.some("-<>= ", 4)
	case 6:
		return strings.Repeat("w", c.pick(27))
	case 7:
		return "'" + strings.Repeat("t", 60+c.pick(8)) + "'"
	}
	return modelText(c.tok()) + c.some(" \n", 1)
}

// sql is a text, of which many have a fault somewhere.
func (c *chance) sql(most int) string {
	var b strings.Builder
	for range c.pick(most + 1) {
		b.WriteString(c.piece())
	}
	return b.String()
}

// P10.1: whatever a text is, its tokens or its fault are the model's.
func TestLexByChance(t *testing.T) {
	c := chance(1)
	counts := map[api.Errno]int{}
	for i := range 60000 {
		most := 6
		if i%10 == 0 {
			most = 60
		}
		if i%100 == 0 {
			most = 600
		}
		sql := c.sql(most)
		like(t, sql)
		_, spot := lex.Lex(sql)
		counts[spot.Err]++
	}
	for _, err := range []api.Errno{api.OK, 200, 201, api.ErrLong} {
		if counts[err] < 100 {
			t.Errorf("%d texts of %d", counts[err], err)
		}
	}
}

// P10.1: of texts of many short tokens, faults and one too many are told at the first such place.
func TestManyByChance(t *testing.T) {
	c := chance(2)
	counts := map[api.Errno]int{}
	for range 3000 {
		var b strings.Builder
		for size := 250 + c.pick(300); b.Len() < size; {
			b.WriteString(c.some("+*;.,(= 0", 3))
			if c.oneIn(400) {
				b.WriteString([]string{"#", "1a", "'\n", "'"}[c.pick(4)])
			}
		}
		sql := b.String()
		like(t, sql)
		_, spot := lex.Lex(sql)
		counts[spot.Err]++
	}
	for _, err := range []api.Errno{api.OK, 200, 201, api.ErrLong} {
		if counts[err] < 100 {
			t.Errorf("%d texts of %d", counts[err], err)
		}
	}
}

// P10.2: Key, Name and Quote of whatever bytes.
func TestWordsByChance(t *testing.T) {
	c := chance(3)
	for range 60000 {
		s := c.cased(words[c.pick(len(words))])
		if c.oneIn(2) {
			s = c.some("SELECTINORByaos_1", 26)
		}
		if c.oneIn(4) {
			s += c.some("s_1 '\x00\xff\u017f", 2)
		}
		checkWord(t, s)
		if got := lex.Quote(s); got != modelQuote(s) {
			t.Fatalf("Quote(%q): %q", s, got)
		}
	}
}

// P10.3: whatever a row of tokens is, Check and Print say what the model says.
func TestPrintByChance(t *testing.T) {
	c := chance(4)
	counts := map[api.Errno]int{}
	for i := range 40000 {
		most := 5
		if i%10 == 0 {
			most = 320
		}
		l := c.toks(most)
		if len(l) > 0 && c.oneIn(2) {
			at := c.pick(len(l))
			l[at] = c.spoilt(l[at])
		}
		want, failed := modelPrint(l)
		got, err := lex.Print(l)
		if got != want || err != failed {
			t.Fatalf("%s: %q, %d; not %q, %d", said(l), got, err, want, failed)
		}
		if lex.Check(l) != modelCheck(l) {
			t.Fatalf("%s: Check: %d", said(l), lex.Check(l))
		}
		counts[err]++
	}
	for _, err := range []api.Errno{api.OK, 202, api.ErrLong} {
		if counts[err] < 100 {
			t.Errorf("%d rows of %d", counts[err], err)
		}
	}
}

// P10.3: Same of rows that differ in one thing, or in places alone.
func TestSameByChance(t *testing.T) {
	c := chance(5)
	same := 0
	for range 40000 {
		a := c.toks(4)
		b := append([]api.Tok(nil), a...)
		for i := range b {
			b[i].At, b[i].To = c.pick(100), c.pick(100)
			if c.oneIn(8) {
				b[i] = c.spoilt(b[i])
			}
		}
		if len(b) > 0 && c.oneIn(8) {
			b = b[1:]
		}
		if lex.Same(a, b) != modelSame(a, b) || lex.Same(b, a) != modelSame(a, b) {
			t.Fatalf("Same(%s, %s)", said(a), said(b))
		}
		if modelSame(a, b) {
			same++
		}
	}
	if same < 5000 || same > 35000 {
		t.Error(same)
	}
}

package lex_test

import (
	"math"
	"slices"
	"strings"
	"testing"

	"tallyhouse/api"
	"tallyhouse/lex"
)

// wrongTok is a token that may not be.
type wrongTok struct {
	why string
	tok api.Tok
}

// wrongToks are tokens that may not be, each for one reason.
func wrongToks() []wrongTok {
	out := []wrongTok{{"a zero one", api.Tok{}}, {"a zero one at a place", api.Tok{At: 3, To: 4}}}
	for _, kind := range []int{math.MinInt, -1, 0, 6, 7, 256, 257, 1<<32 + 1, math.MaxInt} {
		for _, s := range []string{"", "x", "SELECT", "<="} {
			out = append(out, wrongTok{"its Kind", api.Tok{Kind: kind, Text: s}})
		}
		out = append(out, wrongTok{"its Kind", api.Tok{Kind: kind, Num: 1}})
	}
	for _, word := range words {
		for _, s := range mixed(word)[1:] {
			if s != word {
				out = append(out, wrongTok{"a word that is kept, not in capitals", key(s)})
			}
			out = append(out, wrongTok{"a name that is kept", name(s)})
		}
		out = append(out, wrongTok{"no word that is kept", key(word + " ")}, wrongTok{"no word that is kept", key(word + "_")}, wrongTok{"no word that is kept", key(word + "S")}, wrongTok{"a word that is kept as a sign", sign(word)})
	}
	for _, s := range []string{"", "X", "select", "SELEC", "SELECTS", " SELECT", "SELECT ", "ORDER BY", "'SELECT'", "<=", "1", "\u017fET"} {
		out = append(out, wrongTok{"no word that is kept", key(s)})
	}
	for _, s := range []string{"", "1", "1a", "a b", " a", "a ", "a-", "a.b", "'a'", "<=", "a\x00", "\u00e9", "a\u00e9", "--", strings.Repeat("n", 25), strings.Repeat("_", 1000)} {
		out = append(out, wrongTok{"no name", name(s)})
	}
	for _, s := range []string{"", " ", "==", "!=", "=<", "=>", "><", "<<", "--", "- -", "<= ", " <=", "< =", "<=>", "<>=", "()", "x", "1", "'", "''", ":", "!", "#", "\x00", "\xff", "|", "&", "^", "[", "]", "\"", "||", "..", "+-", "\u2264"} {
		out = append(out, wrongTok{"no sign", sign(s)})
	}
	for _, s := range []string{"\x00", "\x1f", "\x7f", "\x80", "\xff", "a\n", "\ta", "a\x00b", "\u00e9", "a\u2019b", strings.Repeat("q", 65), strings.Repeat("'", 65), strings.Repeat(" ", 1000)} {
		out = append(out, wrongTok{"what no quoted text says", text(s)})
	}
	for _, n := range []int64{-1, -7, math.MinInt64, math.MinInt64 + 1, math.MinInt32} {
		out = append(out, wrongTok{"a number below 0", num(n)})
	}
	for _, n := range []int64{0, 1, 7, math.MaxInt64} {
		for _, s := range []string{"0", "7", " ", "x", "''", "9223372036854775807"} {
			out = append(out, wrongTok{"a number with a Text", api.Tok{Kind: 3, Text: s, Num: n}})
		}
	}
	for _, tok := range rightToks() {
		if tok.Kind == 3 {
			continue
		}
		for _, n := range []int64{1, -1, 7, 1 << 32, math.MaxInt64, math.MinInt64} {
			tok.Num = n
			out = append(out, wrongTok{"a Num of what is no number", tok})
		}
	}
	return out
}

// rightToks are tokens that may be, of each Kind.
func rightToks() []api.Tok {
	var out []api.Tok
	for _, word := range words {
		out = append(out, key(word))
	}
	for _, s := range signs {
		out = append(out, sign(s))
	}
	for _, s := range []string{"a", "_", "x1", "selects", "Zz_9", "bb", strings.Repeat("n", 24), strings.Repeat("_", 24)} {
		out = append(out, name(s))
	}
	for _, n := range []int64{0, 1, 7, 10, 1 << 31, 1 << 32, 1 << 62, math.MaxInt64 - 1, math.MaxInt64} {
		out = append(out, num(n))
	}
	for _, s := range []string{"", "a", "'", "''", "it's", " ", "~", "--", "SELECT", "12", strings.Repeat("q", 64), strings.Repeat("'", 64)} {
		out = append(out, text(s))
	}
	return out
}

// P10.3: tokens that may be, of each Kind, at whatever place; and their texts.
func TestPrint(t *testing.T) {
	prints(t, "")
	prints(t, "SELECT", key("SELECT"))
	prints(t, "a", name("a"))
	prints(t, "aB_9 , KEY", name("aB_9"), sign(","), key("KEY"))
	prints(t, "0", num(0))
	prints(t, "7 - 9223372036854775807", num(7), sign("-"), num(math.MaxInt64))
	prints(t, "''", text(""))
	prints(t, "'it''s'", text("it's"))
	prints(t, "'''' '' 'a''''b'", text("'"), text(""), text("a''b"))
	prints(t, "- - <= < =", sign("-"), sign("-"), sign("<="), sign("<"), sign("="))
	prints(t, "1 2 a b SELECT FROM 'a' 'b'", num(1), num(2), name("a"), name("b"), key("SELECT"), key("FROM"), text("a"), text("b"))
	prints(t, "' ' 'SELECT' '-- x' '12'", text(" "), text("SELECT"), text("-- x"), text("12"))
	for _, tok := range rightToks() {
		want := modelText(tok)
		prints(t, want, tok)
		prints(t, want+" "+want, tok, tok)
		for _, place := range [][2]int{{1, 2}, {7, 3}, {-1, -5}, {math.MinInt, math.MaxInt}, {0, 1}, {5000, 5000}} {
			prints(t, "x "+want, name("x"), put(tok, place[0], place[1]))
		}
		lexes(t, want, put(tok, 0, len(want)))
	}
}

// P10.3: tokens that may not be, for each reason, alone, ahead of others, between them, and behind all.
func TestWrongToks(t *testing.T) {
	for _, q := range wrongToks() {
		mayNot(t, q.why, q.tok)
		mayNot(t, q.why, q.tok, name("x"))
		mayNot(t, q.why, name("x"), q.tok)
		mayNot(t, q.why, num(1), put(q.tok, 4, 5), text("x"))
		mayNot(t, q.why, append(many(299), q.tok)...)
	}
}

// P10.3: at most 300 tokens; of one more ErrTok, ahead of a text that is too long.
func TestManyToksOfAList(t *testing.T) {
	for count := 295; count <= 300; count++ {
		prints(t, strings.TrimSuffix(strings.Repeat("* ", count), " "), many(count)...)
	}
	for _, count := range []int{301, 302, 512, 513, 1000, 100000} {
		mayNot(t, "too many", many(count)...)
	}
	mayNot(t, "too many, and too long", slices.Repeat([]api.Tok{text("it's")}, 301)...)
}

// long is so many names of nine bytes, so that each has ten with a blank.
func long(count int) []api.Tok {
	return slices.Repeat([]api.Tok{name("ninebytes")}, count)
}

// P10.3: a text has at most 1024 bytes; of tokens whose text has more ErrLong, though they may be.
func TestLongPrint(t *testing.T) {
	for size := range 24 {
		last := name(strings.Repeat("z", size+1))
		l := append(long(101), last)
		if 1010+size+1 > 1024 {
			tooLong(t, l)
			tooLong(t, append(l, sign(";")))
			continue
		}
		prints(t, strings.Repeat("ninebytes ", 101)+last.Text, l...)
	}
	prints(t, strings.Repeat("ninebytes ", 102)+"it_s", append(long(102), name("it_s"))...)
	tooLong(t, append(long(102), name("it__s")))
	prints(t, strings.Repeat("ninebytes ", 102)+"1 <=", append(long(102), num(1), sign("<="))...)
	tooLong(t, append(long(102), num(10), sign("<=")))
	prints(t, strings.Repeat("ninebytes ", 102)+"''''", append(long(102), text("'"))...)
	tooLong(t, append(long(102), text("'a")))
	tooLong(t, append(long(102), text("aaa")))
	tooLong(t, long(103))
	tooLong(t, slices.Repeat([]api.Tok{text("it's")}, 300))
	prints(t, strings.TrimSuffix(strings.Repeat("9000 ", 205), " "), slices.Repeat([]api.Tok{num(9000)}, 205)...)
	tooLong(t, append(slices.Repeat([]api.Tok{num(9000)}, 204), num(10000)))
	tooLong(t, slices.Repeat([]api.Tok{num(9000)}, 206))
	mayNot(t, "too long, and wrong behind it", append(long(200), name(""))...)
	mayNot(t, "wrong, and too long behind it", append([]api.Tok{name("")}, long(200)...)...)
}

// tooLong fails the test where tokens that may be have a text.
func tooLong(t *testing.T, l []api.Tok) {
	t.Helper()
	if err := lex.Check(l); err != api.OK {
		t.Errorf("%d tokens: Check: %d", len(l), err)
	}
	if got, err := lex.Print(l); got != "" || err != api.ErrLong {
		t.Errorf("%d tokens: %q, %d", len(l), got, err)
	}
	if _, err := modelPrint(l); err != api.ErrLong {
		t.Errorf("%d tokens: the model says %d", len(l), err)
	}
}

// P10.3: Same is asked of whatever tokens, those that may not be too; places don't count, all else does.
func TestSame(t *testing.T) {
	all := [][]api.Tok{nil, {}}
	few := append(rightToks()[30:60], api.Tok{}, api.Tok{Kind: -1}, num(-1), name(""), key("select"), key("x"), name("SELECT"), sign("x"), text("SELECT"), api.Tok{Kind: 3, Text: "7", Num: 7}, api.Tok{Kind: 3, Text: "7"}, api.Tok{Kind: 2, Text: "a", Num: 1}, api.Tok{Kind: 3, Num: 1 << 32})
	for _, tok := range few {
		all = append(all, []api.Tok{tok}, []api.Tok{tok, tok}, []api.Tok{name("x"), tok}, []api.Tok{tok, name("x")})
	}
	for _, a := range all {
		for _, b := range all {
			for _, places := range [][2]int{{0, 0}, {3, 4}, {math.MinInt, math.MaxInt}} {
				other := slices.Clone(b)
				for i := range other {
					other[i].At, other[i].To = places[0], places[1]
				}
				if lex.Same(a, other) != modelSame(a, b) || lex.Same(other, a) != modelSame(a, b) {
					t.Fatalf("Same(%s, %s)", said(a), said(other))
				}
			}
		}
	}
	a := []api.Tok{put(name("x"), 0, 1), put(sign(";"), 1, 2)}
	for _, b := range [][]api.Tok{
		{put(name("x"), 1, 1), put(sign(";"), 1, 2)},
		{put(name("x"), 0, 0), put(sign(";"), 1, 2)},
		{put(name("x"), 0, 1), put(sign(";"), 9, 2)},
		{put(name("x"), 0, 1), put(sign(";"), 1, 9)},
	} {
		if !lex.Same(a, b) || !lex.Same(b, a) {
			t.Errorf("Same(%s, %s)", said(a), said(b))
		}
	}
	for _, b := range [][]api.Tok{a[:1], a[1:], nil, {a[1], a[0]}, {a[0], a[1], a[1]}, {name("X"), sign(";")}, {name("x"), name(";")}, {text("x"), sign(";")}, {{Kind: 2, Text: "x", Num: 1}, sign(";")}} {
		if lex.Same(a, b) || lex.Same(b, a) {
			t.Errorf("Same(%s, %s)", said(a), said(b))
		}
	}
	if !lex.Same(long(1000), long(1000)) || lex.Same(long(1000), long(999)) {
		t.Error("Same of more tokens than a text has")
	}
}

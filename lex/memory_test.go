package lex_test

import (
	"slices"
	"strings"
	"testing"
	"unsafe"

	"tallyhouse/api"
	"tallyhouse/lex"
)

// loose is a text whose bytes are the test's own, so that a change of them shows who keeps it.
func loose(s string) (string, []byte) {
	b := []byte(s)
	if len(b) == 0 {
		return "", b
	}
	return unsafe.String(&b[0], len(b)), b
}

// spoil writes over bytes.
func spoil(b []byte) {
	for i := range b {
		b[i] = '?'
	}
}

// P10.1, R3: the tokens keep nothing of their text.
func TestLexKeepsNothing(t *testing.T) {
	for _, s := range []string{"select a1, x.y from Tab where b <= 'it''s' and c = 'q' -- z", "a", "'a'", "<=", "SELECT", "a+1", "12a", "x #"} {
		own, b := loose(s)
		got, at := lex.Lex(own)
		if string(b) != s {
			t.Errorf("Lex changes %q", s)
		}
		want, spot := lex.Lex(s)
		was := said(want)
		spoil(b)
		if said(got) != was || at != spot {
			t.Errorf("Lex keeps %q: %s", s, said(got))
		}
		for i := range want {
			want[i] = api.Tok{Kind: 77}
		}
		if again, _ := lex.Lex(s); said(again) != was || said(got) != was {
			t.Errorf("Lex of %q: two answers share their tokens", s)
		}
	}
}

// P10.2, R3: what Keys answers is its own.
func TestKeysAreNewMemory(t *testing.T) {
	one, two := lex.Keys(), lex.Keys()
	for i := range one[:cap(one)] {
		one[:cap(one)][i] = "spoilt"
	}
	if !slices.Equal(two, words) || !slices.Equal(lex.Keys(), words) {
		t.Errorf("%q", two)
	}
	for _, word := range words {
		if up, ok := lex.Key(word); up != word || !ok {
			t.Errorf("Key(%q): %q", word, up)
		}
	}
	if _, ok := lex.Key("spoilt"); ok || !lex.Name("spoilt") {
		t.Error("a key that was put there")
	}
	lexes(t, "select spoilt", put(key("SELECT"), 0, 6), put(name("spoilt"), 7, 13))
}

// P10.2, R3: Key and Quote keep nothing of their argument.
func TestTextsAreNewMemory(t *testing.T) {
	for _, s := range []string{"SELECT", "select", "a", "it's", "", "'"} {
		own, b := loose(s)
		up, _ := lex.Key(own)
		said := lex.Quote(own)
		want, _ := modelKey(s)
		if string(b) != s {
			t.Errorf("%q is changed", s)
		}
		spoil(b)
		if up != want || said != modelQuote(s) {
			t.Errorf("%q is kept: %q, %q", s, up, said)
		}
	}
}

// P10.3, R3: Check, Print and Same change nothing, the room behind a list neither; Print keeps nothing.
func TestListsAreNotChanged(t *testing.T) {
	for _, l := range [][]api.Tok{nil, {name("x")}, {text("it's")}, {num(7)}, {sign("<=")}, {name("x"), sign(";"), key("SELECT")}, {name("")}, long(200), many(301)} {
		room := append(slices.Clip(slices.Clone(l)), num(-5), name("room"))
		for i := range room {
			room[i].Text = strings.Clone(room[i].Text)
		}
		in, was := room[:len(l)], slices.Clone(room)
		want, err := modelPrint(l)
		got, failed := lex.Print(in)
		lex.Check(in)
		lex.Same(in, in)
		lex.Same(in, l)
		lex.Same(l, room)
		if !slices.Equal(room, was) {
			t.Errorf("%s was changed: %s", said(was), said(room))
		}
		if got != want || err != failed {
			t.Errorf("Print of %s: %q, %d", said(l), got, failed)
		}
	}
	own, b := loose("name")
	got, _ := lex.Print([]api.Tok{name(own)})
	other, bytes := loose("it's")
	quoted, _ := lex.Print([]api.Tok{text(other)})
	spoil(b)
	spoil(bytes)
	if got != "name" || quoted != "'it''s'" {
		t.Errorf("Print keeps its tokens' texts: %q, %q", got, quoted)
	}
}

// R5: the same arguments have the same answers, whatever was asked between.
func TestSameAnswers(t *testing.T) {
	c := chance(11)
	var texts, answers []string
	for range 300 {
		s := c.sql(6)
		l, spot := lex.Lex(s)
		texts, answers = append(texts, s), append(answers, said(l)+said([]api.Tok{{Kind: int(spot.Err), At: spot.At}}))
	}
	for i, s := range slices.Backward(texts) {
		l, spot := lex.Lex(s)
		if said(l)+said([]api.Tok{{Kind: int(spot.Err), At: spot.At}}) != answers[i] {
			t.Errorf("%q: %s", s, said(l))
		}
	}
}

package lex_test

import (
	"slices"
	"strconv"
	"testing"

	"tallyhouse/api"
	"tallyhouse/lex"
)

// key, name, num, text and sign are tokens at no place.
func key(s string) api.Tok {
	return api.Tok{Kind: 1, Text: s}
}

func name(s string) api.Tok {
	return api.Tok{Kind: 2, Text: s}
}

func num(n int64) api.Tok {
	return api.Tok{Kind: 3, Num: n}
}

func text(s string) api.Tok {
	return api.Tok{Kind: 4, Text: s}
}

func sign(s string) api.Tok {
	return api.Tok{Kind: 5, Text: s}
}

// put is that token at a place.
func put(tok api.Tok, at, to int) api.Tok {
	tok.At, tok.To = at, to
	return tok
}

// said says tokens, each with all its fields; nil and empty lists are one.
func said(l []api.Tok) string {
	out := "["
	for _, tok := range l {
		out += " " + strconv.Itoa(tok.Kind) + ":" + strconv.Quote(tok.Text) + ":" + strconv.FormatInt(tok.Num, 10) + "@" + strconv.Itoa(tok.At) + "-" + strconv.Itoa(tok.To)
	}
	return out + " ]"
}

// lexes fails the test where a text's tokens are not these.
func lexes(t *testing.T, sql string, want ...api.Tok) {
	t.Helper()
	got, spot := lex.Lex(sql)
	if !slices.Equal(got, want) || spot != (api.Spot{}) {
		t.Errorf("%q: %s, %d at %d; not %s", sql, said(got), spot.Err, spot.At, said(want))
	}
	if model, at := modelLex(sql); !slices.Equal(model, want) || at != spot {
		t.Errorf("%q: the model says %s, %d at %d; not %s", sql, said(model), at.Err, at.At, said(want))
	}
}

// fails fails the test where a text has tokens, or another fault, or one at another place.
func fails(t *testing.T, sql string, err api.Errno, at int) {
	t.Helper()
	want := api.Spot{Err: err, At: at}
	if got, spot := lex.Lex(sql); len(got) > 0 || spot != want {
		t.Errorf("%q: %s, %d at %d; not %d at %d", sql, said(got), spot.Err, spot.At, err, at)
	}
	if _, spot := modelLex(sql); spot != want {
		t.Errorf("%q: the model says %d at %d; not %d at %d", sql, spot.Err, spot.At, err, at)
	}
}

// like fails the test where a text's tokens, or its fault, are not the model's.
func like(t *testing.T, sql string) {
	t.Helper()
	got, spot := lex.Lex(sql)
	want, at := modelLex(sql)
	if !slices.Equal(got, want) || spot != at {
		t.Fatalf("%q: %s, %d at %d; not %s, %d at %d", sql, said(got), spot.Err, spot.At, said(want), at.Err, at.At)
	}
}

// prints fails the test where tokens that may be have another text.
func prints(t *testing.T, want string, l ...api.Tok) {
	t.Helper()
	if err := lex.Check(l); err != api.OK {
		t.Errorf("%s: %d", said(l), err)
	}
	if got, err := lex.Print(l); got != want || err != api.OK {
		t.Errorf("%s: %q, %d; not %q", said(l), got, err, want)
	}
	if model, err := modelPrint(l); model != want || err != api.OK {
		t.Errorf("%s: the model says %q, %d; not %q", said(l), model, err, want)
	}
}

// mayNot fails the test where tokens may be.
func mayNot(t *testing.T, why string, l ...api.Tok) {
	t.Helper()
	if err := lex.Check(l); err != 202 {
		t.Errorf("%s: Check of %s: %d", why, said(l), err)
	}
	if got, err := lex.Print(l); got != "" || err != 202 {
		t.Errorf("%s: Print of %s: %q, %d", why, said(l), got, err)
	}
	if err := modelCheck(l); err != 202 {
		t.Errorf("%s: the model takes %s", why, said(l))
	}
}

package lex_test

import (
	"slices"
	"testing"

	"tallyhouse/api"
	"tallyhouse/lex"
)

// P10.1: the chapter's examples.
func TestExamples(t *testing.T) {
	lexes(t, "select a1 from T -- x", put(key("SELECT"), 0, 6), put(name("a1"), 7, 9), put(key("FROM"), 10, 14), put(name("T"), 15, 16))
	lexes(t, "'it''s' <= 007", put(text("it's"), 0, 7), put(sign("<="), 8, 10), put(num(7), 11, 14))
	lexes(t, "a.b<>-3", put(name("a"), 0, 1), put(sign("."), 1, 2), put(name("b"), 2, 3), put(sign("<>"), 3, 5), put(sign("-"), 5, 6), put(num(3), 6, 7))
	fails(t, "12a", 201, 0)
	fails(t, "'a", 200, 0)
	fails(t, "#", 200, 0)
	fails(t, "9223372036854775808", 201, 0)
	lexes(t, "- -", put(sign("-"), 0, 1), put(sign("-"), 2, 3))
	lexes(t, "-- -")
}

// P10.1: the document's examples of the whole have tokens, and their texts are as short as they may be.
func TestStatements(t *testing.T) {
	for sql, want := range map[string]string{
		"CREATE TABLE t (a INT PRIMARY KEY, b TEXT);":             "CREATE TABLE t ( a INT PRIMARY KEY , b TEXT ) ;",
		"INSERT INTO t VALUES (1, 'x')":                           "INSERT INTO t VALUES ( 1 , 'x' )",
		"SELECT a + 1 FROM t WHERE b = 'x'":                       "SELECT a + 1 FROM t WHERE b = 'x'",
		"INSERT INTO t VALUES (9223372036854775807 + 1, NULL)":    "INSERT INTO t VALUES ( 9223372036854775807 + 1 , NULL )",
		"update t set\ta=-a,b='it''s'\r\nwhere not a>=0-- more\n": "UPDATE t SET a = - a , b = 'it''s' WHERE NOT a >= 0",
		"Select Count(*),Sum(t.a%2)From t Group By t.b;":          "SELECT COUNT ( * ) , SUM ( t . a % 2 ) FROM t GROUP BY t . b ;",
		"":      "",
		" \n--": "",
	} {
		l, spot := lex.Lex(sql)
		if spot != (api.Spot{}) {
			t.Fatalf("%q: %d at %d", sql, spot.Err, spot.At)
		}
		prints(t, want, l...)
		if model, _ := modelLex(sql); !slices.Equal(l, model) {
			t.Errorf("%q: %s, not %s", sql, said(l), said(model))
		}
	}
}

// P10.1, P10.3: the constants are the document's.
func TestConstants(t *testing.T) {
	if api.ErrLex != 200 || api.ErrNumber != 201 || api.ErrTok != 202 {
		t.Error("errors")
	}
	if api.MaxSql != 1024 || api.MaxToks != 300 || api.MaxName != 24 || api.MaxWord != 64 {
		t.Error("limits")
	}
	if api.TokKey != 1 || api.TokName != 2 || api.TokInt != 3 || api.TokText != 4 || api.TokSign != 5 {
		t.Error("kinds")
	}
}

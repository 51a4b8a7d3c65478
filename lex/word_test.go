package lex_test

import (
	"slices"
	"strings"
	"testing"

	"tallyhouse/lex"
)

// mixed are ways to write a word in letters of either case.
func mixed(word string) []string {
	small := strings.ToLower(word)
	out := []string{word, small, word[:1] + small[1:], small[:1] + word[1:]}
	for i := range len(word) {
		out = append(out, small[:i]+word[i:i+1]+small[i+1:], word[:i]+small[i:i+1]+word[i+1:])
	}
	odd := []byte(word)
	for i := 0; i < len(odd); i += 2 {
		odd[i] = small[i]
	}
	return append(out, string(odd))
}

// nearby are words that have one letter more than a word, or one less, or another one.
func nearby(word string) []string {
	var out []string
	for _, more := range []string{"A", "x", "S", "_", "0"} {
		out = append(out, word+more)
		if more != "0" {
			out = append(out, more+word)
		}
		out = append(out, word[:1]+more+word[1:])
	}
	for i := range len(word) {
		out = append(out, word[:i]+word[i+1:], word[:i]+"_"+word[i+1:])
		if i > 0 {
			out = append(out, word[:i]+"1"+word[i+1:])
		}
	}
	return append(out, word+word, word+"_"+word)
}

// P10.2: the words that are kept, in their order, in capitals.
func TestKeys(t *testing.T) {
	want := []string{
		"CREATE", "TABLE", "DROP", "INSERT", "INTO", "VALUES", "UPDATE", "SET", "DELETE", "FROM", "SELECT", "WHERE", "INNER", "JOIN", "ON", "ORDER", "BY", "ASC",
		"DESC", "LIMIT", "GROUP", "COUNT", "SUM", "AND", "OR", "NOT", "NULL", "TRUE", "FALSE", "IS", "INT", "BOOL", "TEXT", "PRIMARY", "KEY",
	}
	if got := lex.Keys(); !slices.Equal(got, want) || !slices.Equal(words, want) {
		t.Errorf("%q", got)
	}
}

// P10.1, P10.2: each word that is kept, in whatever case, is told in capitals.
func TestKeptWords(t *testing.T) {
	for _, word := range words {
		for _, s := range mixed(word) {
			if up, ok := lex.Key(s); up != word || !ok {
				t.Errorf("Key(%q): %q, %v", s, up, ok)
			}
			if lex.Name(s) {
				t.Errorf("Name(%q)", s)
			}
			lexes(t, s, put(key(word), 0, len(s)))
			lexes(t, "("+s+"\n"+s+")", put(sign("("), 0, 1), put(key(word), 1, 1+len(s)), put(key(word), 2+len(s), 2+2*len(s)), put(sign(")"), 2+2*len(s), 3+2*len(s)))
		}
	}
}

// P10.1, P10.2: with one letter more or less, or another one, it is not that word.
func TestWordsNearKept(t *testing.T) {
	for _, word := range words {
		for _, near := range nearby(word) {
			for _, s := range mixed(near + "z") {
				checkWord(t, s)
				checkWord(t, s[:len(s)-1])
			}
		}
	}
}

// checkWord holds what Key, Name and Lex say of a word, which may be none, against what the chapter says.
func checkWord(t *testing.T, s string) {
	t.Helper()
	up, kept := modelKey(s)
	if got, ok := lex.Key(s); got != up || ok != kept {
		t.Errorf("Key(%q): %q, %v", s, got, ok)
	}
	if lex.Name(s) != modelName(s) {
		t.Errorf("Name(%q): %v", s, lex.Name(s))
	}
	like(t, s)
}

// P10.1: a word that is not kept is a name, as it stands; TEXTS, IN, COUNTS and KEYS are not kept.
func TestNames(t *testing.T) {
	for _, s := range []string{"a", "Z", "_", "__", "_1", "a1", "aB", "Ab_9", "x_y", "TEXTS", "in", "Counts", "keys", "selec", "selects", "_select", "select_", "select1", "N", "nul", "nulls", "true_false"} {
		lexes(t, s, put(name(s), 0, len(s)))
		lexes(t, " "+s+","+s+" ", put(name(s), 1, 1+len(s)), put(sign(","), 1+len(s), 2+len(s)), put(name(s), 2+len(s), 2+2*len(s)))
		if up, ok := lex.Key(s); up != "" || ok || !lex.Name(s) {
			t.Errorf("%q: %q, %v", s, up, ok)
		}
	}
}

// P10.1, P10.2: a name has at most 24 bytes.
func TestLongNames(t *testing.T) {
	for _, s := range []string{"a", "Z", "_", "a0", "_9Z"} {
		for size := 1; size <= 40; size++ {
			long := strings.Repeat(s, size)[:size]
			if lex.Name(long) != (size <= 24) {
				t.Errorf("Name(%q): %v", long, lex.Name(long))
			}
			if size <= 24 {
				lexes(t, long, put(name(long), 0, size))
				lexes(t, "1;"+long+"'x'", put(num(1), 0, 1), put(sign(";"), 1, 2), put(name(long), 2, 2+size), put(text("x"), 2+size, 5+size))
				continue
			}
			fails(t, long, 200, 0)
			fails(t, "1;"+long+"'x'", 200, 2)
			fails(t, " \n"+long+" ", 200, 2)
		}
	}
	for _, word := range words {
		long := word + strings.Repeat("_", 24-len(word))
		lexes(t, long, put(name(long), 0, 24))
		fails(t, long+"_", 200, 0)
	}
	fails(t, strings.Repeat("x", 1024), 200, 0)
	if s := strings.Repeat("x", 1<<20); lex.Name(s) {
		t.Error("a great name")
	}
}

// P10.2: what is no word is neither kept nor a name; letters beyond those from a to z are none, though some have such capitals.
func TestNoWords(t *testing.T) {
	for _, s := range []string{
		"", " ", "0", "1a", "9_", "a b", " a", "a ", "a-b", "a.b", "a'", "'a'", "\x00", "a\x00", "a\n", "\na", "select ", " select", "select;", "order by", "is null",
		"\u00e9", "a\u00e9", "\xff", "a\xff", "\u017fet", "\u017felect", "in\u0131", "\u0131s", "l\u0131m\u0131t", "\u212aey", "\u0130S", "ba\u017fe", "a@", "a[", "a`", "a{", "@", "[", "`", "{", "/", ":", "a/", "a:",
	} {
		if up, ok := lex.Key(s); up != "" || ok {
			t.Errorf("Key(%q): %q, %v", s, up, ok)
		}
		if lex.Name(s) {
			t.Errorf("Name(%q)", s)
		}
		like(t, s)
	}
	fails(t, "\u017fet", 200, 0)
	fails(t, "\u212aey", 200, 0)
	fails(t, "l\u0131mit", 200, 1)
}

// P10.1, P10.2: each byte where a word begins, within it, and at its end.
func TestBytesOfWords(t *testing.T) {
	for n := range 256 {
		b := string([]byte{byte(n)})
		letter := n >= 'a' && n <= 'z' || n >= 'A' && n <= 'Z' || n == '_'
		inner := letter || n >= '0' && n <= '9'
		for s, want := range map[string]bool{b: letter, b + "x": letter, b + "9": letter, "x" + b: inner, "_" + b + "x": inner, "x9" + b: inner, strings.Repeat("x", 23) + b: inner, strings.Repeat("x", 24) + b: false} {
			if _, ok := lex.Key(s); ok || lex.Name(s) != want {
				t.Errorf("%q: Name %v, Key %v", s, lex.Name(s), ok)
			}
		}
		for _, s := range []string{b + "ELECT", "SELEC" + b, "sel" + b + "ct", "SELECT" + b, b + "SELECT", b + "s", "o" + b, "b" + b} {
			checkWord(t, s)
		}
		if inner {
			lexes(t, "ab"+b+"cd", put(name("ab"+b+"cd"), 0, 5))
		}
	}
}

// P10.2: each word of up to three letters, digits and _ of some.
func TestShortWords(t *testing.T) {
	few := []string{"", "b", "B", "y", "Y", "o", "N", "r", "I", "s", "1", "_", "t", "A", "c"}
	for _, a := range few {
		for _, b := range few {
			for _, c := range few {
				checkWord(t, a+b+c)
			}
		}
	}
}

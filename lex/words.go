package lex

import "strings"

// quote begins a quoted text, and ends it.
const quote = '\''

// kept are the words that are kept, in the document's order.
var kept = [...]string{
	"CREATE", "TABLE", "DROP", "INSERT", "INTO", "VALUES", "UPDATE", "SET", "DELETE", "FROM", "SELECT", "WHERE",
	"INNER", "JOIN", "ON", "ORDER", "BY", "ASC", "DESC", "LIMIT", "GROUP", "COUNT", "SUM",
	"AND", "OR", "NOT", "NULL", "TRUE", "FALSE", "IS", "INT", "BOOL", "TEXT", "PRIMARY", "KEY",
}

// isKey tells whether a word is that key, in whatever case. Byte by byte: signs beyond the letters from a to z have capitals, too, but are in no word.
func isKey(word, key string) bool {
	if len(word) != len(key) {
		return false
	}
	for i := range len(key) {
		if capital(word[i]) != key[i] {
			return false
		}
	}
	return true
}

func capital(b byte) byte {
	if 'a' <= b && b <= 'z' {
		return b - 'a' + 'A'
	}
	return b
}

func isWord(s string) bool {
	return s != "" && isLetter(s[0]) && run(s, 0, isInner) == len(s)
}

// isLetter tells whether a word may begin with that byte.
func isLetter(b byte) bool {
	c := capital(b)
	return 'A' <= c && c <= 'Z' || b == '_'
}

func isDigit(b byte) bool {
	return '0' <= b && b <= '9'
}

// isInner tells whether that byte may stand in a word.
func isInner(b byte) bool {
	return isLetter(b) || isDigit(b)
}

// isPlain tells whether that byte may be said in a quoted text.
func isPlain(b byte) bool {
	return ' ' <= b && b <= '~'
}

// signSize is how many bytes the longest sign has with which s begins; 0, if there is none.
func signSize(s string) int {
	switch {
	case s == "":
		return 0
	case strings.HasPrefix(s, "<="), strings.HasPrefix(s, ">="), strings.HasPrefix(s, "<>"):
		return 2
	case strings.IndexByte("(),;=<>+-*/%.", s[0]) >= 0:
		return 1
	}
	return 0
}

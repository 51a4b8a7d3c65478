package lex_test

import (
	"regexp"
	"slices"
	"strconv"
	"strings"

	"tallyhouse/api"
)

// Each says what stands at the beginning of a text: the longest that the chapter's words give. A quoted text goes on behind each two signs ', and may have no end.
var (
	blanksThere = regexp.MustCompile(`\A(?:[\x09\x0a\x0d\x20]|--[^\n]*)*`)
	wordThere   = regexp.MustCompile(`\A[a-zA-Z_][a-zA-Z0-9_]*`)
	numberThere = regexp.MustCompile(`\A[0-9]+`)
	badNumber   = regexp.MustCompile(`\A[0-9]+[a-zA-Z_]`)
	quotedThere = regexp.MustCompile(`\A'(?:[^']|'')*'?`)
	quotedRight = regexp.MustCompile(`\A'(?:[ -&(-~]|''){0,64}'\z`)
	signThere   = regexp.MustCompile(`\A(?:<=|>=|<>|[(),;=<>+\-*/%.])`)
)

// words are those that are kept, as the chapter has them.
var words = strings.Fields("CREATE TABLE DROP INSERT INTO VALUES UPDATE SET DELETE FROM SELECT WHERE INNER JOIN ON ORDER BY ASC DESC LIMIT GROUP COUNT SUM AND OR NOT NULL TRUE FALSE IS INT BOOL TEXT PRIMARY KEY")

// signs are all there are.
var signs = strings.Fields("<= >= <> ( ) , ; = < > + - * / % .")

// mapped is a word of letters, digits and _ in capitals.
func mapped(word string) string {
	return strings.Map(func(r rune) rune {
		if r >= 'a' && r <= 'z' {
			return r - 32
		}
		return r
	}, word)
}

// modelKey is what Key says.
func modelKey(word string) (string, bool) {
	if up := mapped(word); wordThere.FindString(word) == word && slices.Contains(words, up) {
		return up, true
	}
	return "", false
}

// modelName is what Name says.
func modelName(s string) bool {
	_, kept := modelKey(s)
	return s != "" && wordThere.FindString(s) == s && !kept && len(s) <= 24
}

// modelToken is the token with which s begins, how many bytes it has, and why it is none.
func modelToken(s string) (api.Tok, int, api.Errno) {
	if own := wordThere.FindString(s); own != "" {
		if up, kept := modelKey(own); kept {
			return api.Tok{Kind: api.TokKey, Text: up}, len(own), api.OK
		}
		if !modelName(own) {
			return api.Tok{}, 0, 200
		}
		return api.Tok{Kind: api.TokName, Text: own}, len(own), api.OK
	}
	if own := numberThere.FindString(s); own != "" {
		digits := strings.TrimLeft(own, "0")
		if badNumber.MatchString(s) || len(digits) > 19 || len(digits) == 19 && digits > "9223372036854775807" {
			return api.Tok{}, 0, 201
		}
		num := int64(0)
		for _, digit := range []byte(digits) {
			num = 10*num + int64(digit-'0')
		}
		return api.Tok{Kind: api.TokInt, Num: num}, len(own), api.OK
	}
	if own := quotedThere.FindString(s); own != "" {
		what := strings.TrimSuffix(strings.TrimPrefix(own, "'"), "'")
		if !quotedRight.MatchString(own) {
			return api.Tok{}, 0, 200
		}
		return api.Tok{Kind: api.TokText, Text: strings.ReplaceAll(what, "''", "'")}, len(own), api.OK
	}
	if own := signThere.FindString(s); own != "" {
		return api.Tok{Kind: api.TokSign, Text: own}, len(own), api.OK
	}
	return api.Tok{}, 0, 200
}

// modelLex is what Lex says.
func modelLex(text string) ([]api.Tok, api.Spot) {
	if len(text) > 1024 {
		return nil, api.Spot{Err: api.ErrLong}
	}
	var out []api.Tok
	at := 0
	for {
		at += len(blanksThere.FindString(text[at:]))
		if at == len(text) {
			return out, api.Spot{}
		}
		tok, size, err := modelToken(text[at:])
		if err == api.OK && len(out) == 300 {
			err = api.ErrLong
		}
		if err != api.OK {
			return nil, api.Spot{Err: err, At: at}
		}
		tok.At, tok.To = at, at+size
		out = append(out, tok)
		at += size
	}
}

// modelText is a token's text; empty, if it may not be.
func modelText(tok api.Tok) string {
	own := tok.Text
	switch tok.Kind {
	case api.TokInt:
		own = strconv.FormatInt(tok.Num, 10)
	case api.TokText:
		own = modelQuote(tok.Text)
	}
	// A token may be just if its text leads back to it.
	back, size, err := modelToken(own)
	if back.Kind != tok.Kind || back.Text != tok.Text || back.Num != tok.Num || size != len(own) || err != api.OK {
		return ""
	}
	return own
}

func modelQuote(s string) string {
	return "'" + strings.ReplaceAll(s, "'", "''") + "'"
}

// modelCheck is what Check says.
func modelCheck(l []api.Tok) api.Errno {
	for _, tok := range l {
		if modelText(tok) == "" {
			return 202
		}
	}
	if len(l) > 300 {
		return 202
	}
	return api.OK
}

// modelPrint is what Print says.
func modelPrint(l []api.Tok) (string, api.Errno) {
	if err := modelCheck(l); err != api.OK {
		return "", err
	}
	var own []string
	for _, tok := range l {
		own = append(own, modelText(tok))
	}
	text := strings.Join(own, " ")
	if len(text) > 1024 {
		return "", api.ErrLong
	}
	return text, api.OK
}

// modelSame is what Same says.
func modelSame(a, b []api.Tok) bool {
	return slices.EqualFunc(a, b, func(x, y api.Tok) bool {
		return x.Kind == y.Kind && x.Text == y.Text && x.Num == y.Num
	})
}

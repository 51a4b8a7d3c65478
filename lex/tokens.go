package lex

import (
	"iter"
	"strconv"
	"strings"

	"tallyhouse/api"
)

// tokens tells the tokens of a text; as the last one, where none begins that may be, its place alone, and why.
func tokens(text string) iter.Seq2[api.Tok, api.Errno] {
	return func(yield func(api.Tok, api.Errno) bool) {
		for at := behindBlanks(text, 0); at < len(text); {
			tok, why := begin(text, at)
			if !yield(tok, why) || why != api.OK {
				return
			}
			at = behindBlanks(text, tok.To)
		}
	}
}

// from tells the bytes of a text from a place on, each with its place.
func from(text string, at int) iter.Seq2[int, byte] {
	return func(yield func(int, byte) bool) {
		for i := at; i < len(text); i++ {
			if !yield(i, text[i]) {
				return
			}
		}
	}
}

// behindBlanks is the place behind the blanks and remarks that stand at a place.
func behindBlanks(text string, at int) int {
	remark := false
	for i, b := range from(text, at) {
		switch {
		case remark:
			remark = b != '\n'
		case strings.HasPrefix(text[i:], "--"):
			remark = true
		case b != '\t' && b != '\n' && b != '\r' && b != ' ':
			return i
		}
	}
	return len(text)
}

// run is the place behind the bytes of that kind that stand at a place.
func run(text string, at int, is func(b byte) bool) int {
	for i, b := range from(text, at) {
		if !is(b) {
			return i
		}
	}
	return len(text)
}

// begin is the token that begins at a place; or that place alone, and why none does.
func begin(text string, at int) (api.Tok, api.Errno) {
	switch b := text[at]; {
	case isLetter(b):
		return word(text, at)
	case isDigit(b):
		return number(text, at)
	case b == quote:
		return quoted(text, at)
	}
	size := signSize(text[at:])
	if size == 0 {
		return api.Tok{At: at}, api.ErrLex
	}
	to := at + size
	return api.Tok{Kind: api.TokSign, Text: strings.Clone(text[at:to]), At: at, To: to}, api.OK
}

func word(text string, at int) (api.Tok, api.Errno) {
	to := run(text, at, isInner)
	own := text[at:to]
	if key, isKept := Key(own); isKept {
		return api.Tok{Kind: api.TokKey, Text: key, At: at, To: to}, api.OK
	}
	if len(own) > api.MaxName {
		return api.Tok{At: at}, api.ErrLex
	}
	return api.Tok{Kind: api.TokName, Text: strings.Clone(own), At: at, To: to}, api.OK
}

func number(text string, at int) (api.Tok, api.Errno) {
	to := run(text, at, isDigit)
	num, err := strconv.ParseInt(text[at:to], 10, 64)
	if err != nil || to < len(text) && isLetter(text[to]) {
		return api.Tok{At: at}, api.ErrNumber
	}
	return api.Tok{Kind: api.TokInt, Num: num, At: at, To: to}, api.OK
}

// quoted goes on behind a sign ' as long as another one stands behind it: it ends at the first one that stands alone.
func quoted(text string, at int) (api.Tok, api.Errno) {
	var said strings.Builder
	to, alone := at, false
	for i, b := range from(text, at+1) {
		switch {
		case b == quote && !alone:
			to, alone = i+1, true
		case b != quote && alone:
			goto ended
		case !isPlain(b):
			return api.Tok{At: at}, api.ErrLex
		default:
			said.WriteByte(b)
			alone = false
		}
	}
	if !alone {
		return api.Tok{At: at}, api.ErrLex
	}
ended:
	if said.Len() > api.MaxWord {
		return api.Tok{At: at}, api.ErrLex
	}
	return api.Tok{Kind: api.TokText, Text: said.String(), At: at, To: to}, api.OK
}

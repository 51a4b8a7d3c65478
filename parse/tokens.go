package parse

import "tallyhouse/api"

// tokens are those of a text, of which so many are read.
type tokens struct {
	all  []api.Tok
	read int
	end  int
}

// next is the first token that is not read; where there is none, just the text's end.
func (t *tokens) next() api.Tok {
	if t.read == len(t.all) {
		return api.Tok{At: t.end}
	}
	return t.all[t.read]
}

// spot is an error at the next token.
func (t *tokens) spot(err api.Errno) api.Spot {
	return api.Spot{Err: err, At: t.next().At}
}

// is tells whether the next token is that word or sign; a quoted text that says the same is none.
func (t *tokens) is(word string) bool {
	tok := t.next()
	return tok.Text == word && (tok.Kind == api.TokKey || tok.Kind == api.TokSign)
}

// found reads that word or sign, if it is there.
func (t *tokens) found(word string) bool {
	if !t.is(word) {
		return false
	}
	t.read++
	return true
}

// words reads these words and signs, one behind the other.
func (t *tokens) words(all ...string) {
	for _, word := range all {
		if !t.found(word) {
			panic(t.spot(api.ErrParse))
		}
	}
}

// one reads a token of that kind.
func (t *tokens) one(kind int) api.Tok {
	tok := t.next()
	if tok.Kind != kind {
		panic(t.spot(api.ErrParse))
	}
	t.read++
	return tok
}

// name reads a name.
func (t *tokens) name() string {
	return t.one(api.TokName).Text
}

// ref reads a column, which may have its table ahead of it.
func (t *tokens) ref() api.Ref {
	name := t.name()
	if t.found(".") {
		return api.Ref{Table: name, Name: t.name()}
	}
	return api.Ref{Name: name}
}

// list reads what each reads, again behind each comma.
func (t *tokens) list(each func()) {
	each()
	for t.found(",") {
		each()
	}
}

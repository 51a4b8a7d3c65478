package parse

import "tallyhouse/api"

// firstWords are the words with which statements begin, by their kinds.
var firstWords = [...]string{
	api.StCreate: "CREATE", api.StDrop: "DROP", api.StInsert: "INSERT",
	api.StUpdate: "UPDATE", api.StDelete: "DELETE", api.StSelect: "SELECT",
}

// typeWords are the words of types, by their numbers.
var typeWords = [...]string{api.ValBool: "BOOL", api.ValInt: "INT", api.ValText: "TEXT"}

// parser reads statements. What is wrong leaves it by a panic, with its spot.
type parser struct {
	tokens
	ops   map[string]op
	nodes []api.Node
	open  int
}

// stmts reads a text's statements.
func (p *parser) stmts() (list []api.Stmt, spot api.Spot) {
	defer func() {
		if wrong, is := recover().(api.Spot); is {
			list, spot = nil, wrong
		}
	}()
	for len(list) == 0 || p.read < len(p.all) {
		list = append(list, p.stmt(len(list)))
		if p.read < len(p.all) {
			p.words(";")
		}
	}
	return list, api.Spot{}
}

// stmt reads a statement; so many are ahead of it.
func (p *parser) stmt(ahead int) api.Stmt {
	s := api.Stmt{Kind: p.kind(), Limit: noLimit}
	if ahead == api.MaxStmts {
		panic(p.spot(api.ErrStmts))
	}
	p.words(firstWords[s.Kind])
	switch s.Kind {
	case api.StCreate:
		p.create(&s)
	case api.StDrop:
		p.words("TABLE")
		s.Table = p.name()
	case api.StInsert:
		p.insert(&s)
	case api.StUpdate:
		p.update(&s)
	case api.StDelete:
		p.words("FROM")
		s.Table = p.name()
		s.Where = p.exprBehind("WHERE")
	case api.StSelect:
		p.choose(&s)
	}
	return s
}

// kind is the kind of the statement that the next token begins.
func (p *parser) kind() int {
	for kind, word := range firstWords {
		if p.is(word) {
			return kind
		}
	}
	panic(p.spot(api.ErrParse))
}

func (p *parser) create(s *api.Stmt) {
	p.words("TABLE")
	s.Table = p.name()
	p.words("(")
	p.list(func() { s.Columns = append(s.Columns, p.column()) })
	p.words(")")
}

// column reads a column of CREATE.
func (p *parser) column() api.Defined {
	c := api.Defined{Name: p.name(), Type: p.typed()}
	switch {
	case p.found("PRIMARY"):
		p.words("KEY")
		c.Key = true
	case p.found("NOT"):
		p.words("NULL")
		c.NotNull = true
	}
	return c
}

// typed reads a type.
func (p *parser) typed() int {
	for number, word := range typeWords {
		if p.found(word) {
			return number
		}
	}
	panic(p.spot(api.ErrParse))
}

func (p *parser) insert(s *api.Stmt) {
	p.words("INTO")
	s.Table = p.name()
	p.words("VALUES", "(")
	p.list(func() { s.Sets = append(s.Sets, api.Set{Expr: p.expr()}) })
	p.words(")")
}

func (p *parser) update(s *api.Stmt) {
	s.Table = p.name()
	p.words("SET")
	p.list(func() {
		name := p.name()
		p.words("=")
		s.Sets = append(s.Sets, api.Set{Name: name, Expr: p.expr()})
	})
	s.Where = p.exprBehind("WHERE")
}

// choose reads what stands behind SELECT.
func (p *parser) choose(s *api.Stmt) {
	s.Star = p.found("*")
	if !s.Star {
		p.list(func() { s.Items = append(s.Items, p.item()) })
	}
	p.words("FROM")
	s.Table = p.name()
	if p.found("INNER") {
		p.words("JOIN")
		s.Join = p.name()
		p.words("ON")
		s.On = p.expr()
	}
	s.Where = p.exprBehind("WHERE")
	s.Group = p.refBehind("GROUP")
	s.Order = p.refBehind("ORDER")
	if s.Order != (api.Ref{}) && !p.found("ASC") {
		s.Desc = p.found("DESC")
	}
	if p.found("LIMIT") {
		s.Limit = int(p.one(api.TokInt).Num)
	}
}

// item reads what a SELECT tells.
func (p *parser) item() api.Item {
	switch {
	case p.found("COUNT"):
		p.words("(", "*", ")")
		return api.Item{Kind: api.ItCount}
	case p.found("SUM"):
		p.words("(")
		sum := api.Item{Kind: api.ItSum, Expr: p.expr()}
		p.words(")")
		return sum
	}
	return api.Item{Kind: api.ItExpr, Expr: p.expr()}
}

// exprBehind reads a word and an expression, if the word is there.
func (p *parser) exprBehind(word string) api.Expr {
	if !p.found(word) {
		return api.Expr{}
	}
	return p.expr()
}

// refBehind reads a word, BY and a column, if the word is there.
func (p *parser) refBehind(word string) api.Ref {
	if !p.found(word) {
		return api.Ref{}
	}
	p.words("BY")
	return p.ref()
}

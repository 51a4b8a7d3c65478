package parse

import (
	"tallyhouse/api"
	"tallyhouse/value"
)

// op is what stands between two expressions: its rank, and the Kind and the Op of its row.
type op struct {
	rank, kind, number int
}

// The ranks of ops, from the loosest on.
const (
	rankOr = 1 + iota
	rankAnd
	rankTest
	rankSum
	rankProduct
)

func ops() map[string]op {
	return map[string]op{
		"OR":  {rankOr, api.ExOr, 0},
		"AND": {rankAnd, api.ExAnd, 0},
		"=":   {rankTest, api.ExTest, api.OpEq},
		"<>":  {rankTest, api.ExTest, api.OpNe},
		"<":   {rankTest, api.ExTest, api.OpLt},
		"<=":  {rankTest, api.ExTest, api.OpLe},
		">":   {rankTest, api.ExTest, api.OpGt},
		">=":  {rankTest, api.ExTest, api.OpGe},
		"+":   {rankSum, api.ExReckon, api.OpAdd},
		"-":   {rankSum, api.ExReckon, api.OpSub},
		"*":   {rankProduct, api.ExReckon, api.OpMul},
		"/":   {rankProduct, api.ExReckon, api.OpDiv},
		"%":   {rankProduct, api.ExReckon, api.OpRem},
	}
}

// expr reads an expression.
func (p *parser) expr() api.Expr {
	p.nodes = nil
	p.or()
	return api.Expr{Nodes: p.nodes}
}

// row puts a row behind the others, and tells its place.
func (p *parser) row(n api.Node) int {
	p.nodes = append(p.nodes, n)
	return len(p.nodes) - 1
}

// op reads an op, if one of that rank is there.
func (p *parser) op(rank int) (op, bool) {
	word := p.next().Text
	o := p.ops[word]
	return o, o.rank == rank && p.found(word)
}

// chain reads what part reads, again behind each op of that rank; like all that read expressions, it tells the place of the row.
func (p *parser) chain(rank int, part func() int) int {
	row := part()
	for o, is := p.op(rank); is; o, is = p.op(rank) {
		next := part()
		row = p.row(api.Node{Kind: o.kind, Op: o.number, A: row, B: next})
	}
	return row
}

// opened reads a word, which is open while part reads.
func (p *parser) opened(word string, part func() int) int {
	if p.open == api.MaxNest {
		panic(p.spot(api.ErrNest))
	}
	p.words(word)
	p.open++
	row := part()
	p.open--
	return row
}

func (p *parser) or() int {
	return p.chain(rankOr, p.and)
}

func (p *parser) and() int {
	return p.chain(rankAnd, p.not)
}

func (p *parser) not() int {
	if !p.is("NOT") {
		return p.test()
	}
	return p.row(api.Node{Kind: api.ExNot, A: p.opened("NOT", p.not)})
}

// test reads at most one test: behind it stands none.
func (p *parser) test() int {
	row := p.sum()
	if o, is := p.op(rankTest); is {
		return p.row(api.Node{Kind: o.kind, Op: o.number, A: row, B: p.sum()})
	}
	if !p.found("IS") {
		return row
	}
	kind := api.ExNull
	if p.found("NOT") {
		kind = api.ExNotNull
	}
	p.words("NULL")
	return p.row(api.Node{Kind: kind, A: row})
}

func (p *parser) sum() int {
	return p.chain(rankSum, p.product)
}

func (p *parser) product() int {
	return p.chain(rankProduct, p.minus)
}

func (p *parser) minus() int {
	if !p.is("-") {
		return p.single()
	}
	return p.row(api.Node{Kind: api.ExMinus, A: p.opened("-", p.minus)})
}

func (p *parser) single() int {
	switch {
	case p.is("("):
		row := p.opened("(", p.or)
		p.words(")")
		return row
	case p.next().Kind == api.TokName:
		ref := p.ref()
		return p.row(api.Node{Kind: api.ExColumn, Table: ref.Table, Name: ref.Name})
	}
	return p.row(api.Node{Kind: api.ExValue, Value: p.value()})
}

func (p *parser) value() api.Value {
	switch {
	case p.next().Kind == api.TokText:
		return value.Text(p.one(api.TokText).Text)
	case p.found("TRUE"):
		return value.Bool(true)
	case p.found("FALSE"):
		return value.Bool(false)
	case p.found("NULL"):
		return value.Null()
	}
	return value.Int(p.one(api.TokInt).Num)
}

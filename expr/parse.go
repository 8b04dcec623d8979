package expr

import (
	"streamwright/api"
	"streamwright/token"
	"streamwright/value"
)

// parser reads tokens from the first one on; the last one is the end.
type parser struct {
	tokens []token.Token
	level  int
}

// parse reads an expression; it throws what is wrong in it.
func parse(text string) node {
	if len(text) > api.MaxExpr {
		panic(fault{0, api.ErrFull})
	}
	p := &parser{tokens: tokens(text)}
	tree := p.or()
	p.want("")
	return tree
}

// tokens cuts a text; it throws what is none.
func tokens(text string) []token.Token {
	list, at, ok := token.Cut(text)
	if !ok {
		panic(fault{at, api.ErrSyntax})
	}
	return list
}

func (p *parser) or() node { return p.joined(orRank, p.and) }

func (p *parser) and() node { return p.joined(andRank, p.not) }

func (p *parser) not() node {
	if p.next().Text == "not" {
		return p.behind(notRank, p.not)
	}
	return p.comparison()
}

func (p *parser) comparison() node {
	left := p.sum()
	if sign := p.next(); signRank(sign.Text) == comparisonRank {
		p.take()
		return newInfix(sign, left, p.sum())
	}
	return left
}

func (p *parser) sum() node { return p.joined(sumRank, p.product) }

func (p *parser) product() node { return p.joined(productRank, p.minus) }

func (p *parser) minus() node {
	if p.next().Text == "-" {
		return p.behind(minusRank, p.minus)
	}
	return p.first()
}

// joined reads parts with signs of a rank between them, from the left.
func (p *parser) joined(r rank, part func() node) node {
	left := part()
	for signRank(p.next().Text) == r {
		sign := p.take()
		left = newInfix(sign, left, part())
	}
	return left
}

// behind reads a sign, and the part behind it.
func (p *parser) behind(r rank, part func() node) node {
	sign := p.take()
	p.enter(sign)
	n := newPrefix(sign, r, part())
	p.leave()
	return n
}

func (p *parser) first() node {
	t := p.take()
	switch {
	case t.Kind == token.Number, t.Kind == token.Text, t.Text == "true", t.Text == "false":
		v, err := value.Read(t.Text)
		if err != nil {
			panic(fault{t.At, api.ErrSyntax})
		}
		return literal{v}
	case t.Text == "(":
		p.enter(t)
		n := p.or()
		p.want(")")
		p.leave()
		return n
	case t.Kind == token.Word && !reserved(t.Text):
		return p.named(t)
	}
	panic(fault{t.At, api.ErrSyntax})
}

// named reads what may stand behind a name.
func (p *parser) named(t token.Token) node {
	if len(t.Text) > api.MaxName {
		panic(fault{t.At, api.ErrRange})
	}
	if p.next().Text != "(" {
		return column{t.At, t.Text}
	}
	p.enter(p.take())
	parts := p.arguments()
	p.leave()
	return newCall(t, parts)
}

// arguments reads all behind a call's opening bracket.
func (p *parser) arguments() []node {
	if p.next().Text == ")" {
		p.take()
		return nil
	}
	parts := []node{p.or()}
	for p.next().Text == "," {
		p.take()
		parts = append(parts, p.or())
	}
	p.want(")")
	return parts
}

// enter begins a level at a token.
func (p *parser) enter(t token.Token) {
	if p.level == api.MaxNest {
		panic(fault{t.At, api.ErrRange})
	}
	p.level++
}

func (p *parser) leave() { p.level-- }

func (p *parser) next() token.Token { return p.tokens[0] }

// take gives the next token and goes behind it, but never behind the end.
func (p *parser) take() token.Token {
	t := p.next()
	if t.Kind != token.End {
		p.tokens = p.tokens[1:]
	}
	return t
}

// want takes a token that must stand here (empty: the end).
func (p *parser) want(text string) {
	if t := p.take(); t.Text != text {
		panic(fault{t.At, api.ErrSyntax})
	}
}

// reserved tells whether a word can be no name.
func reserved(word string) bool {
	switch word {
	case "and", "or", "not", "true", "false", "as":
		return true
	}
	return false
}

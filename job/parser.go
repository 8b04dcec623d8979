package job

import (
	"slices"

	"streamwright/api"
	"streamwright/expr"
	"streamwright/token"
	"streamwright/value"
)

// parser reads the tokens of a line from the first one on; the last one is
// the end.
type parser struct {
	line   string
	tokens []token.Token
	ahead  []api.Node // those of the lines ahead
}

func (p *parser) next() token.Token { return p.tokens[0] }

// take gives the next token and goes behind it, but never behind the end.
func (p *parser) take() token.Token {
	t := p.next()
	if t.Kind != token.End {
		p.tokens = p.tokens[1:]
	}
	return t
}

// has takes a token, if it stands here.
func (p *parser) has(text string) bool {
	if p.next().Text != text {
		return false
	}
	p.take()
	return true
}

// want takes a token that must be one of some (empty: the end), and tells which.
func (p *parser) want(texts ...string) string {
	t := p.take()
	if !slices.Contains(texts, t.Text) {
		throw(api.ErrSyntax)
	}
	return t.Text
}

// choice takes a word that must be one of some, and gives what it says.
func choice[T any](p *parser, words map[string]T) T {
	said, ok := words[p.take().Text]
	if !ok {
		throw(api.ErrSyntax)
	}
	return said
}

// list reads one or more of something, with a token between each two.
func list[T any](p *parser, between string, one func() T) []T {
	l := []T{one()}
	for p.has(between) {
		l = append(l, one())
	}
	return l
}

// titled reads one or more of something, each with its name behind it.
func titled[T any](p *parser, one func() T) ([]T, []string) {
	var l []T
	names := list(p, ",", func() string {
		l = append(l, one())
		p.want("as")
		return p.name()
	})
	return l, names
}

func (p *parser) name() string {
	t := p.take()
	if t.Kind == token.Word && len(t.Text) > api.MaxName {
		throw(api.ErrRange)
	}
	if !expr.Named(t.Text) || reserved(t.Text) {
		throw(api.ErrSyntax)
	}
	return t.Text
}

func (p *parser) number() int64 {
	t := p.take()
	v, err := value.Read(t.Text)
	if t.Kind != token.Number || err != nil {
		throw(api.ErrSyntax)
	}
	return v.Int
}

// input reads the name of a node ahead, and gives its place.
func (p *parser) input() int {
	at := place(p.ahead, p.name())
	if at < 0 || p.ahead[at].Op.Kind == api.OpSink {
		throw(api.ErrName)
	}
	return at
}

// place of the node of a name; -1: there is none.
func place(nodes []api.Node, name string) int {
	return slices.IndexFunc(nodes, func(n api.Node) bool { return n.Name == name })
}

// column reads the name of one of some columns, and gives its place.
func (p *parser) column(cols []api.Column) int {
	name := p.name()
	at := slices.IndexFunc(cols, func(c api.Column) bool { return c.Name == name })
	if at < 0 {
		throw(api.ErrName)
	}
	return at
}

// expr reads an expression, and gives it as it is printed.
func (p *parser) expr() string {
	from := p.next().At
	to := from
	for open := 0; !p.exprEnds(open); {
		t := p.take()
		to = t.At + len(t.Text)
		switch t.Text {
		case "(":
			open++
		case ")":
			open = max(open-1, 0)
		}
	}
	text, _, err := expr.Print(p.line[from:to])
	throw(err)
	if len(text) > api.MaxExpr {
		throw(api.ErrFull)
	}
	return text
}

// exprEnds tells whether the next token is none of an expression in which so
// many brackets are open.
func (p *parser) exprEnds(open int) bool {
	t := p.next()
	return t.Kind == token.End || open == 0 && (t.Text == "as" || t.Text == ",")
}

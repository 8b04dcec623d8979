package expr

import (
	"streamwright/api"
	"streamwright/token"
)

// node is a part of an expression.
type node interface {
	// kindOver tells the kind; it throws the first fault.
	kindOver(cols []api.Column) api.Kind
	// valueOver computes, where kindOver threw nothing and the values fit.
	valueOver(cols []api.Column, row []api.Value) api.Value
}

// literal is a value that is written out.
type literal struct {
	is api.Value
}

// column stands for its value.
type column struct {
	at   int
	name string
}

// applied is what all parts share that do something with others.
type applied struct {
	at    int // where a fault of its kinds is told
	does  operation
	parts []node
}

// prefix is a sign, and the part behind it.
type prefix struct {
	applied
	sign string
	rank rank
}

// infix is two parts with a sign between them.
type infix struct {
	applied
	sign string
	rank rank
}

// call is a function's name, with its arguments as the parts.
type call struct {
	applied
	name  string
	known bool
}

func newPrefix(sign token.Token, r rank, part node) prefix {
	return prefix{applied{sign.At, prefixOperation(sign.Text), []node{part}}, sign.Text, r}
}

func newInfix(sign token.Token, left, right node) infix {
	return infix{applied{sign.At, infixOperation(sign.Text), []node{left, right}}, sign.Text, signRank(sign.Text)}
}

func newCall(name token.Token, parts []node) call {
	does, known := function(name.Text)
	return call{applied{name.At, does, parts}, name.Text, known}
}

func (l literal) kindOver(cols []api.Column) api.Kind { return l.is.Kind }

func (l literal) valueOver(cols []api.Column, row []api.Value) api.Value { return l.is }

func (c column) kindOver(cols []api.Column) api.Kind {
	i := place(cols, c.name)
	if i < 0 {
		panic(fault{c.at, api.ErrName})
	}
	return cols[i].Kind
}

func (c column) valueOver(cols []api.Column, row []api.Value) api.Value {
	return row[place(cols, c.name)]
}

func (a applied) kindOver(cols []api.Column) api.Kind {
	kinds := make([]api.Kind, len(a.parts))
	for i, part := range a.parts {
		kinds[i] = part.kindOver(cols)
	}
	kind, ok := a.does.kindOf(kinds)
	if !ok {
		panic(fault{a.at, api.ErrType})
	}
	return kind
}

func (a applied) valueOver(cols []api.Column, row []api.Value) api.Value {
	values := make([]api.Value, len(a.parts))
	for i, part := range a.parts {
		values[i] = part.valueOver(cols, row)
	}
	return a.does.to(values)
}

func (c call) kindOver(cols []api.Column) api.Kind {
	if !c.known {
		panic(fault{c.at, api.ErrName})
	}
	return c.applied.kindOver(cols)
}

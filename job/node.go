package job

import (
	"slices"

	"streamwright/api"
	"streamwright/expr"
	"streamwright/op"
	"streamwright/token"
)

// withLine gives the nodes with that of a line behind them.
func withLine(nodes []api.Node, line string) ([]api.Node, error) {
	err := caught(func() {
		tokens, _, ok := token.Cut(line)
		if !ok {
			throw(api.ErrSyntax)
		}
		if len(tokens) == 1 { // just the end
			return
		}
		p := &parser{line: line, tokens: tokens, ahead: nodes}
		n := p.node()
		p.want("")
		nodes = append(nodes, settled(n, nodes))
	})
	return nodes, err
}

// settled gives a node that was read with its Columns, if it may stand
// behind others.
func settled(n api.Node, ahead []api.Node) api.Node {
	if place(ahead, n.Name) >= 0 {
		throw(api.ErrName)
	}
	if n.Op.Kind == api.OpSource {
		throw(faultOfStream(n))
		n.Columns = slices.Clone(n.Op.Columns)
	} else {
		cols, err := op.Out(n.Op)
		throw(err)
		n.Columns = cols
	}
	weights := Weight(api.Job{Nodes: append(slices.Clone(ahead), n)})
	if len(weights) > api.MaxNodes || weights[len(ahead)] > api.MaxWeight {
		throw(api.ErrFull)
	}
	return n
}

func faultOfStream(n api.Node) error {
	switch {
	case len(n.Op.Columns) > api.MaxValues:
		return api.ErrFull
	case !expr.Columns(n.Op.Columns): // all else that columns are was read so
		return api.ErrName
	case n.Bound > api.MaxBound:
		return api.ErrRange
	}
	return nil
}

func (p *parser) node() api.Node {
	switch {
	case p.has("stream"):
		return p.stream()
	case p.has("sink"):
		return p.over(p.name(), func(n *api.Node) { n.Op.Kind = api.OpSink })
	}
	return p.over(p.name(), p.work)
}

func (p *parser) stream() api.Node {
	n := api.Node{Name: p.name()}
	n.Op.Kind = api.OpSource
	p.want("(")
	n.Op.Columns = list(p, ",", func() api.Column {
		return api.Column{Name: p.name(), Kind: choice(p, columnKinds())}
	})
	p.want(")")
	if p.has("late") {
		n.Bound = p.number()
	}
	return n
}

// over reads what stands behind a node's name up to its first input, and
// lets another one read on.
func (p *parser) over(name string, rest func(n *api.Node)) api.Node {
	p.want("=")
	first := p.input()
	n := api.Node{Name: name, Inputs: []int{first}}
	n.Op.Columns = slices.Clone(p.ahead[first].Columns)
	rest(&n)
	return n
}

// work reads what is done with the first input.
func (p *parser) work(n *api.Node) {
	switch p.want("where", "select", "by", "union", "outer", "join") {
	case "where":
		n.Op.Kind = api.OpWhere
		n.Op.Exprs = []string{p.expr()}
	case "select":
		n.Op.Kind = api.OpMap
		n.Op.Exprs, n.Op.Names = titled(p, p.expr)
	case "by":
		p.window(&n.Op)
	case "union":
		p.union(n)
	case "outer":
		n.Op.Outer = true
		p.want("join")
		p.join(n)
	case "join":
		p.join(n)
	}
}

func (p *parser) window(o *api.Op) {
	o.Kind = api.OpWindow
	if !p.has("nothing") {
		o.Keys = list(p, ",", func() int { return p.column(o.Columns) })
	}
	o.Windows = p.windows()
	if p.has("give") {
		o.Aggs, o.Names = titled(p, func() api.Agg { return p.fold(o.Columns) })
	}
}

func (p *parser) windows() api.Windows {
	p.want("in")
	w := api.Windows{Kind: choice(p, windowKinds())}
	if w.Kind != api.Whole {
		w.Size = p.number()
	}
	if w.Kind == api.Slide {
		p.want("every")
		w.Step = p.number()
	}
	return w
}

func (p *parser) fold(cols []api.Column) api.Agg {
	a := api.Agg{Kind: choice(p, folds()), At: -1}
	p.want("(")
	if a.Kind != api.Count {
		a.At = p.column(cols)
	}
	p.want(")")
	return a
}

func (p *parser) union(n *api.Node) {
	n.Op.Kind = api.OpUnion
	n.Inputs = append(n.Inputs, list(p, ",", p.input)...)
	// Whether they fit is asked when all of them were read.
	for _, at := range n.Inputs {
		if !slices.Equal(p.ahead[at].Columns, n.Op.Columns) {
			throw(api.ErrType)
		}
	}
}

func (p *parser) join(n *api.Node) {
	n.Op.Kind = api.OpJoin
	second := p.input()
	n.Inputs = append(n.Inputs, second)
	n.Op.Right = slices.Clone(p.ahead[second].Columns)
	p.want("on")
	n.Op.Keys = list(p, "and", func() int {
		key := p.column(n.Op.Columns)
		p.want("=")
		n.Op.Others = append(n.Op.Others, p.column(n.Op.Right))
		return key
	})
	n.Op.Windows = p.windows()
}

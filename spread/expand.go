package spread

import (
	"slices"

	"streamwright/api"
)

// Expand gives a job so many tasks a node.
func Expand(j api.Job, par []int) (api.Graph, error) {
	if len(par) != len(j.Nodes) || slices.ContainsFunc(par, func(n int) bool { return !canBe(n) }) || !inputsAhead(j) {
		return api.Graph{}, api.ErrRange
	}
	g := api.Graph{Job: copied(j), Par: slices.Clone(par)}
	for to, n := range j.Nodes {
		for input := range n.Inputs {
			e := edge(n, to, input, par)
			g.Channels = append(g.Channels, channels(len(g.Edges), e.Way, par[e.From], par[e.To])...)
			g.Edges = append(g.Edges, e)
		}
	}
	return g, nil
}

// inputsAhead tells whether all inputs are nodes ahead, as those of each job
// that Parse gave are.
func inputsAhead(j api.Job) bool {
	for at, n := range j.Nodes {
		if slices.ContainsFunc(n.Inputs, func(from int) bool { return from < 0 || from >= at }) {
			return false
		}
	}
	return true
}

// edge gives the one to a node by one of its inputs.
func edge(n api.Node, to, input int, par []int) api.Edge {
	e := api.Edge{From: n.Inputs[input], To: to, Way: api.ByRow}
	second := n.Op.Kind == api.OpJoin && input == 1
	if second {
		e.Input = 1
	}
	switch {
	case n.Op.Kind == api.OpWindow || n.Op.Kind == api.OpJoin:
		e.Way, e.Keys = api.ByKey, keysOf(n.Op, second)
	case par[e.From] == par[to]:
		e.Way = api.Straight
	}
	return e
}

// keysOf gives the columns by which the rows of an input are kept.
func keysOf(o api.Op, second bool) []int {
	if second {
		return slices.Clone(o.Others)
	}
	return slices.Clone(o.Keys)
}

// channels gives those of an edge between so many tasks and so many others.
func channels(edge, way, from, to int) []api.Channel {
	var l []api.Channel
	for a := range from {
		for b := range to {
			if way != api.Straight || a == b {
				l = append(l, api.Channel{Edge: edge, From: a, To: b})
			}
		}
	}
	return l
}

// copied gives a job that shares no memory with another one.
func copied(j api.Job) api.Job {
	nodes := slices.Clone(j.Nodes)
	for i, n := range nodes {
		nodes[i].Op = copiedOp(n.Op)
		nodes[i].Inputs = slices.Clone(n.Inputs)
		nodes[i].Columns = slices.Clone(n.Columns)
	}
	return api.Job{Nodes: nodes}
}

func copiedOp(o api.Op) api.Op {
	o.Exprs = slices.Clone(o.Exprs)
	o.Names = slices.Clone(o.Names)
	o.Columns = slices.Clone(o.Columns)
	o.Right = slices.Clone(o.Right)
	o.Keys = slices.Clone(o.Keys)
	o.Others = slices.Clone(o.Others)
	o.Aggs = slices.Clone(o.Aggs)
	return o
}

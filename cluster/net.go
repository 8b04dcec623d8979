package cluster

import (
	"streamwright/api"
	"streamwright/spread"
)

// net has the channels between tasks, and what is in them.
type net struct {
	graph  api.Graph
	queues [][]api.Elem // of each channel
}

func newNet(g api.Graph) *net {
	return &net{graph: g, queues: make([][]api.Elem, len(g.Channels))}
}

// edge gives the edge of a channel.
func (n *net) edge(channel int) api.Edge { return n.graph.Edges[n.graph.Channels[channel].Edge] }

// waits tells whether there is something in a channel.
func (n *net) waits(channel int) bool { return len(n.queues[channel]) > 0 }

// take takes the first element out of a channel in which there is one.
func (n *net) take(channel int) api.Elem {
	e := n.queues[channel][0]
	n.queues[channel] = n.queues[channel][1:]
	return e
}

// put puts an element into a channel, behind all others.
func (n *net) put(channel int, e api.Elem) { n.queues[channel] = append(n.queues[channel], e) }

// into gives the channels to a task of a node, in order.
func (n *net) into(node, number int) []int {
	var l []int
	for at, one := range n.graph.Channels {
		if n.edge(at).To == node && one.To == number {
			l = append(l, at)
		}
	}
	return l
}

// from gives what sends for a task of a node.
func (n *net) from(node, number int) sender {
	s := sender{net: n, number: number}
	for at, one := range n.graph.Channels {
		if n.edge(at).From != node || one.From != number {
			continue
		}
		if last := len(s.ways) - 1; last < 0 || s.ways[last].edge != one.Edge {
			s.ways = append(s.ways, way{edge: one.Edge})
		}
		l := &s.ways[len(s.ways)-1].channels
		*l = append(*l, at)
	}
	return s
}

// sender puts what a task sends into its channels.
type sender struct {
	net    *net
	number int // of the task within its node
	ways   []way
}

// way has the channels from a task by an edge.
type way struct {
	edge     int
	channels []int
}

// put sends an element: a row goes to one task by each edge, others go to all.
func (s sender) put(e api.Elem) {
	for _, w := range s.ways {
		target := -1
		if e.Kind == api.ElemRow {
			target = spread.Target(s.net.graph, w.edge, s.number, e.Row)
		}
		for _, at := range w.channels {
			if target < 0 || target == s.net.graph.Channels[at].To {
				s.net.put(at, e)
			}
		}
	}
}

package cluster

import (
	"streamwright/api"
	"streamwright/op"
	"streamwright/spread"
	"streamwright/table"
)

// crew is all that is there while a cluster is up, and gone with a crash.
type crew struct {
	net     *net
	chief   *chief
	tasks   []task    // all, node by node
	streams []*feeder // those of streams
	sinks   []*holder // of those of sinks
}

// newCrew makes one that goes on where a checkpoint says.
func newCrew(in intake, g api.Graph, k api.Check, t *table.Table) *crew {
	c := &crew{net: newNet(g), chief: &chief{begun: k.Mark, done: k.Mark}}
	for node, n := range g.Job.Nodes {
		for number := range g.Par[node] {
			at := post{at: len(c.tasks), node: node, number: number, chief: c.chief}
			if n.Op.Kind == api.OpSource {
				c.addFeeder(at, in, k)
			} else {
				c.addWorker(at, k, t)
			}
		}
	}
	c.chief.tasks = len(c.tasks)
	return c
}

// addFeeder adds a stream's task, whose partitions were read as far as a
// checkpoint says.
func (c *crew) addFeeder(at post, in intake, k api.Check) {
	f := &feeder{post: at, out: c.net.from(at.node, at.number), told: api.Never}
	readers := in.parts[at.node]
	for number := at.number; number < len(readers); number += c.net.graph.Par[at.node] {
		one := part{Reader: readers[number], number: number}
		// It was read so far: nothing goes wrong here.
		_ = one.Seek(placeIn(k, at.node, number))
		f.parts = append(f.parts, one)
	}
	c.tasks = append(c.tasks, f)
	c.streams = append(c.streams, f)
}

// placeIn tells how far a partition was read.
func placeIn(k api.Check, node, number int) int {
	for _, o := range k.Offsets {
		if o.Node == node && o.Part == number {
			return o.At
		}
	}
	return 0
}

// addWorker adds another node's task, whose operator goes on with what a
// checkpoint has of its groups.
func (c *crew) addWorker(at post, k api.Check, t *table.Table) {
	n := c.net.graph.Job.Nodes[at.node]
	in := c.net.into(at.node, at.number)
	w := &worker{post: at, net: c.net, in: in, doors: newDoors(len(in)), out: c.net.from(at.node, at.number)}
	// The job was read, and the pieces were saved by operators of this node:
	// nothing goes wrong here.
	lo, hi := spread.Range(at.number, c.net.graph.Par[at.node])
	w.op, _ = op.New(n.Op, lo, hi)
	_ = w.op.Load(piecesIn(k, at.node))
	if n.Op.Kind == api.OpSink {
		h := &holder{sink: n.Name, number: at.number, table: t}
		c.sinks = append(c.sinks, h)
		w.out = h
	}
	c.tasks = append(c.tasks, w)
}

// piecesIn gives what operators of a node kept.
func piecesIn(k api.Check, node int) []api.Piece {
	var l []api.Piece
	for _, one := range k.Pieces {
		if one.Node == node {
			l = append(l, one.Piece)
		}
	}
	return l
}

// run lets a task go on.
func (c *crew) run(at, choice int) {
	if at >= 0 && at < len(c.tasks) && choice >= 0 {
		c.tasks[at].goOn(choice)
	}
}

// runAll lets all tasks go on until none can.
func (c *crew) runAll() {
	for went := true; went; {
		went = false
		for _, t := range c.tasks {
			for t.goOn(0) {
				went = true
			}
		}
	}
}

// mark begins a checkpoint: all streams' tasks are asked for its mark.
func (c *crew) mark() {
	mark := c.chief.begin()
	for _, f := range c.streams {
		f.asked = append(f.asked, mark)
	}
}

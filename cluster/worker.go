package cluster

import (
	"streamwright/api"
	"streamwright/op"
)

// worker is a task of a node that has inputs.
type worker struct {
	post
	net   *net
	in    []int // channels
	doors doors
	op    *op.Operator
	out   outlet
}

func (w *worker) goOn(choice int) bool {
	ready := w.ready()
	if len(ready) == 0 {
		return false
	}
	at := ready[choice%len(ready)]
	channel := w.in[at]
	for _, e := range w.doors.take(at, w.net.take(channel)) {
		w.pass(w.net.edge(channel).Input, e)
	}
	return true
}

// ready gives the places of its channels that are open, and in which there is
// something.
func (w *worker) ready() []int {
	var l []int
	for at, channel := range w.in {
		if w.net.waits(channel) && w.doors.open(at) {
			l = append(l, at)
		}
	}
	return l
}

// pass does what is to be done with an element that was let on.
func (w *worker) pass(input int, e api.Elem) {
	// Rows fit their inputs and are of its groups, and none comes behind a
	// later time: nothing goes wrong here.
	switch e.Kind {
	case api.ElemRow:
		rows, _ := w.op.Row(input, e.Row)
		w.give(rows)
	case api.ElemTime:
		rows, _ := w.op.Time(e.Time)
		w.give(rows)
		w.out.put(e)
	case api.ElemMark:
		w.out.put(e)
		w.chief.tell(message{task: w.at, mark: e.Mark, pieces: w.pieces()})
	}
}

// give lets rows out.
func (w *worker) give(rows []api.Row) {
	for _, r := range rows {
		w.out.put(api.Elem{Kind: api.ElemRow, Row: r})
	}
}

// pieces gives what the operator keeps.
func (w *worker) pieces() []api.Held {
	var l []api.Held
	for _, one := range w.op.Save() {
		l = append(l, api.Held{Node: w.node, Piece: one})
	}
	return l
}

package cluster

import (
	"slices"

	"streamwright/api"
	"streamwright/op"
	"streamwright/value"
)

// Means tells what a job comes to, when so much of each partition was read.
func Means(text string, logs []api.Log, offsets []api.Offset) ([]api.Sunk, error) {
	in, err := taken(text, logs)
	if err != nil {
		return nil, err
	}
	flows, err := in.flows(offsets)
	if err != nil {
		return nil, err
	}
	var out []api.Sunk
	for at, n := range in.job.Nodes {
		if n.Op.Kind == api.OpSink {
			out = append(out, api.Sunk{Sink: n.Name, Rows: value.Sorted(flows[at].rows)})
		}
	}
	return out, nil
}

// flow is what comes out of a node: its rows, and its time.
type flow struct {
	rows []api.Row
	time int64
}

// flows gives what comes out of each node.
func (in intake) flows(offsets []api.Offset) ([]flow, error) {
	var l []flow
	for at, n := range in.job.Nodes {
		if n.Op.Kind != api.OpSource {
			l = append(l, worked(n, l))
			continue
		}
		one, err := in.read(at, offsets)
		if err != nil {
			return nil, err
		}
		l = append(l, one)
	}
	return l, nil
}

// read gives what comes out of a stream, whose partitions are read as far as
// offsets say.
func (in intake) read(node int, offsets []api.Offset) (flow, error) {
	f := flow{time: api.Forever}
	for part, r := range in.parts[node] {
		first := slices.IndexFunc(offsets, func(o api.Offset) bool { return o.Node == node && o.Part == part })
		reached := func() bool { return first >= 0 && r.At() == offsets[first].At }
		for !reached() && !r.Ended() {
			f.rows = append(f.rows, rowsOf(r.Take())...)
		}
		// What was not met on the whole way is no place of the partition.
		if first >= 0 && !reached() {
			return flow{}, api.ErrRange
		}
		f.time = min(f.time, r.Time())
	}
	return f, nil
}

// rowsOf gives the rows of what flows.
func rowsOf(l []api.Elem) []api.Row {
	var rows []api.Row
	for _, e := range l {
		if e.Kind == api.ElemRow {
			rows = append(rows, e.Row)
		}
	}
	return rows
}

// worked gives what comes out of a node that has inputs, of what comes out
// of those ahead of it.
func worked(n api.Node, ahead []flow) flow {
	// The job was read, and rows of a node fit its columns: nothing goes
	// wrong here.
	o, _ := op.New(n.Op, 0, api.Groups)
	f := flow{time: api.Forever}
	for i, at := range n.Inputs {
		input := 0
		if n.Op.Kind == api.OpJoin {
			input = i
		}
		for _, r := range ahead[at].rows {
			given, _ := o.Row(input, r)
			f.rows = append(f.rows, given...)
		}
		f.time = min(f.time, ahead[at].time)
	}
	// No row of an earlier time could be taken in behind it: it is told last.
	given, _ := o.Time(f.time)
	f.rows = append(f.rows, given...)
	return f
}

package op

import (
	"slices"

	"streamwright/agg"
	"streamwright/api"
	"streamwright/value"
)

// close gives out what comes of a window that has ended.
func (o *Operator) close(b batch, give func(time int64, values []api.Value)) {
	time := min(b.window.To-1, api.MaxTime)
	if o.op.Kind == api.OpWindow {
		give(time, o.fold(b))
		return
	}
	seconds := o.seconds(b)
	for _, first := range value.Sorted(b.rows[0]) {
		for _, second := range seconds {
			give(time, slices.Concat(first.Values, second.Values))
		}
	}
}

// seconds gives the rows of the second input, in order, or what stands in
// their place.
func (o *Operator) seconds(b batch) []api.Row {
	if len(b.rows[1]) == 0 && o.op.Outer {
		return []api.Row{{Values: make([]api.Value, len(o.op.Right))}}
	}
	return value.Sorted(b.rows[1])
}

// fold gives the key, and what the columns come to.
func (o *Operator) fold(b batch) []api.Value {
	l := slices.Clone(b.key)
	for _, one := range o.op.Aggs {
		// The ways and the values were looked at: nothing goes wrong here.
		v, _ := agg.Fold(one.Kind, column(b.rows[0], one.At))
		l = append(l, v)
	}
	return l
}

// column gives the values of rows at a place, with the rows' times; below 0
// there is none, and Nulls stand for them.
func column(rows []api.Row, at int) []api.Timed {
	var l []api.Timed
	for _, r := range rows {
		one := api.Timed{Time: r.Time}
		if at >= 0 {
			one.Value = r.Values[at]
		}
		l = append(l, one)
	}
	return l
}

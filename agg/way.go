package agg

import (
	"cmp"
	"maps"
	"slices"

	"streamwright/api"
	"streamwright/value"
)

// way takes values together, one after the other.
type way interface {
	// add takes in one value more.
	add(one api.Timed)
	// parts is all of what has come that counts for what is still to come.
	parts() []api.Timed
	// join takes in a part of another one of the same kind.
	join(part api.Timed)
	// answer is what it has come to.
	answer() api.Value
}

// join takes in what another one of the same kind has come to.
func join(w way, parts []api.Timed) {
	for _, part := range parts {
		w.join(part)
	}
}

// begun is the way of a valid kind, with nothing taken in.
func begun(kind int) way {
	switch kind {
	case api.Count:
		return newCount()
	case api.Sum:
		return &sum{}
	case api.Min:
		return &pick{order: byValue}
	case api.Max:
		return &pick{order: turned(byValue)}
	case api.First:
		return &pick{order: byTime}
	case api.Last:
		return &pick{order: turned(byTime)}
	}
	return &distinct{met: map[api.Value]struct{}{}}
}

// single is what those ways share that keep one value: a Null, as long as
// there is none.
type single struct {
	kept api.Timed
}

// empty tells whether there is no value yet.
func (s *single) empty() bool { return s.kept.Value.Kind == api.Null }

func (s *single) parts() []api.Timed {
	if s.empty() {
		return nil
	}
	return []api.Timed{s.kept}
}

func (s *single) answer() api.Value { return s.kept.Value }

// total is what those ways share that come to a number, and are joined by
// adding up.
type total struct {
	single
}

// plus adds a number; also 0 makes a number of what is empty.
func (t *total) plus(n int64) { t.kept.Value = value.Of(t.kept.Value.Int + n) }

func (t *total) join(part api.Timed) { t.plus(part.Value.Int) }

// count tells how many values there are.
type count struct {
	total
}

func newCount() *count {
	c := &count{}
	c.plus(0)
	return c
}

func (c *count) add(api.Timed) { c.plus(1) }

// sum adds up the numbers among the values.
type sum struct {
	total
}

func (s *sum) add(one api.Timed) {
	if one.Value.Kind == api.Int {
		s.plus(one.Value.Int)
	}
}

// pick keeps the value that is the first by an order.
type pick struct {
	single
	order func(a, b api.Timed) int
}

func (p *pick) add(one api.Timed) {
	if one.Value.Kind != api.Null && (p.empty() || p.order(one, p.kept) < 0) {
		p.kept = one
	}
}

func (p *pick) join(part api.Timed) { p.add(part) }

func byValue(a, b api.Timed) int { return value.Compare(a.Value, b.Value) }

func byTime(a, b api.Timed) int { return cmp.Or(cmp.Compare(a.Time, b.Time), byValue(a, b)) }

// turned is an order from its end on.
func turned(order func(a, b api.Timed) int) func(a, b api.Timed) int {
	return func(a, b api.Timed) int { return order(b, a) }
}

// distinct tells how many different values there are.
type distinct struct {
	met map[api.Value]struct{}
}

func (d *distinct) add(one api.Timed) {
	if one.Value.Kind != api.Null {
		d.met[one.Value] = struct{}{}
	}
}

func (d *distinct) join(part api.Timed) { d.add(part) }

func (d *distinct) parts() []api.Timed {
	var l []api.Timed
	for _, v := range slices.SortedFunc(maps.Keys(d.met), value.Compare) {
		l = append(l, api.Timed{Value: v})
	}
	return l
}

func (d *distinct) answer() api.Value { return value.Of(int64(len(d.met))) }

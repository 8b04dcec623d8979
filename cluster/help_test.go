package cluster_test

import (
	"fmt"
	"slices"
	"strings"
	"testing"

	"streamwright/api"
	"streamwright/cluster"
	"streamwright/plain"
	"streamwright/value"
)

// lines gives a job.
func lines(l ...string) string { return strings.Join(l, "\n") }

// val makes a value of a number, a text, a truth, or nil.
func val(x any) api.Value {
	switch x := x.(type) {
	case int:
		return value.Of(int64(x))
	case string:
		return value.Words(x)
	case bool:
		return value.Truth(x)
	}
	return api.Value{}
}

func row(time int64, l ...any) api.Row {
	r := api.Row{Time: time}
	for _, x := range l {
		r.Values = append(r.Values, val(x))
	}
	return r
}

// times gives rows of these times, with the numbers 1, 2, ..
func times(l ...int64) []api.Row {
	var out []api.Row
	for i, time := range l {
		out = append(out, row(time, i+1))
	}
	return out
}

// many gives so many rows of the time 1 with the number 1.
func many(n int) []api.Row {
	var l []api.Row
	for range n {
		l = append(l, row(1, 1))
	}
	return l
}

func log(stream string, parts ...[]api.Row) api.Log { return api.Log{Stream: stream, Parts: parts} }

func logs(l ...api.Log) []api.Log { return l }

// upTo gives an offset.
func upTo(node, part, at int) api.Offset { return api.Offset{Node: node, Part: part, At: at} }

// shown writes what has come out.
func shown(l []api.Sunk) string {
	var b strings.Builder
	for _, s := range l {
		fmt.Fprintf(&b, "%s: ", s.Sink)
		for _, r := range s.Rows {
			fmt.Fprint(&b, r.Time)
			for _, v := range r.Values {
				b.WriteString(" " + value.Show(v))
			}
			b.WriteString("; ")
		}
	}
	return strings.TrimSpace(b.String())
}

// means holds what a job comes to against what it should.
func means(t *testing.T, text string, in []api.Log, offsets []api.Offset, want string) {
	t.Helper()
	l, err := cluster.Means(text, in, offsets)
	if err != nil || shown(l) != want {
		t.Errorf("Means(%q, %v, %v): %v,\n%s, want\n%s", text, in, offsets, err, shown(l), want)
	}
}

// faulty holds Means against a fault.
func faulty(t *testing.T, text string, in []api.Log, offsets []api.Offset, why api.Errno) {
	t.Helper()
	l, err := cluster.Means(text, in, offsets)
	if plain.Told(err) != why || l != nil {
		t.Errorf("Means(%q, %.300v, %v): %v, want %v; %s", text, in, offsets, err, why, shown(l))
	}
}

// makes holds New, and Means, whose faults are the same, against a fault, or OK.
func makes(t *testing.T, text string, in []api.Log, why api.Errno) {
	t.Helper()
	c, err := cluster.New(text, in)
	if plain.Told(err) != why || (c == nil) != (why != api.OK) {
		t.Errorf("New(%q, %.300v): %v, want %v", text, in, err, why)
	}
	if why != api.OK {
		faulty(t, text, in, nil, why)
		faulty(t, text, in, []api.Offset{upTo(0, 0, -1)}, why)
		return
	}
	if c.Up() {
		t.Errorf("New(%q, %.300v): it is up", text, in)
	}
	if _, err := cluster.Means(text, in, nil); err != nil {
		t.Errorf("Means(%q, %.300v): %v", text, in, err)
	}
}

// apart tells that no two lists of rows or of values share memory, by writing
// into all of them, as far as their capacity goes.
func apart(t *testing.T, what string, lists ...[]api.Row) {
	t.Helper()
	var values [][]api.Value
	for _, l := range lists {
		for _, r := range l {
			values = append(values, r.Values[:cap(r.Values)])
		}
	}
	shared := stamped(values, func(i int) api.Value { return value.Of(int64(i)) }, func(a, b api.Value) bool { return a == b })
	for i, l := range lists {
		lists[i] = l[:cap(l)]
	}
	if shared || stamped(lists, func(i int) api.Row { return api.Row{Time: int64(i)} }, func(a, b api.Row) bool { return a.Time == b.Time }) {
		t.Errorf("%s: two lists share memory", what)
	}
}

// stamped writes into each list something of its own, and tells whether it
// was written over.
func stamped[T any](lists [][]T, stamp func(i int) T, same func(a, b T) bool) bool {
	for i, l := range lists {
		for k := range l {
			l[k] = stamp(i)
		}
	}
	for i, l := range lists {
		if slices.ContainsFunc(l, func(x T) bool { return !same(x, stamp(i)) }) {
			return true
		}
	}
	return false
}

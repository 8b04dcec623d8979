package op

import (
	"slices"
	"sort"

	"streamwright/api"
	"streamwright/tuple"
	"streamwright/value"
	"streamwright/window"
)

// shelf has the rows of a key for which windows are still to end. They are
// kept as they are, each once: a row can be in many windows, and a cell of a
// store would be read and written as a whole with each row that comes.
type shelf struct {
	key  []api.Value
	rows []kept
}

// kept is a row of an input.
type kept struct {
	input int
	row   api.Row
	given int   // so many of its windows, from the first one on, were given out
	next  int64 // none of the others ends ahead of it
}

// keep lays a row that fits beside the others of its key.
func (o *Operator) keep(input int, r api.Row) {
	r.Values = slices.Clone(r.Values)
	o.lay(kept{input: input, row: r})
}

// lay lays a row beside the others of its key; false: it has no window that
// was not given out.
func (o *Operator) lay(one kept) bool {
	windows := assigned(o.op.Windows, one.row.Time)
	if one.given < 0 || one.given >= len(windows) {
		return false
	}
	one.next = windows[one.given].To
	s := o.shelfFor(o.keyOf(one.input, one.row))
	s.rows = append(s.rows, one)
	return true
}

// assigned gives the windows that a row's time is in, in order.
func assigned(w api.Windows, time int64) []api.Window {
	// Both were looked at: nothing goes wrong here.
	l, _ := window.Assign(w, time)
	return l
}

// shelfFor gives the shelf of a key, which is set up if there is none.
func (o *Operator) shelfFor(key []api.Value) *shelf {
	name := tuple.Name(key)
	one := o.shelves[name]
	if one == nil {
		one = &shelf{key: key}
		o.shelves[name] = one
	}
	return one
}

// batch has the rows of a key that are in a window, by their inputs.
type batch struct {
	window api.Window
	key    []api.Value
	rows   [2][]api.Row
}

// compare tells which of two batches is given out first.
func compare(a, b batch) int {
	if c := window.Compare(a.window, b.window); c != 0 {
		return c
	}
	// Rows of the same time are ordered as their values are.
	return value.CompareRows(api.Row{Values: a.key}, api.Row{Values: b.key})
}

// ripe takes the windows that end at a time or ahead of it, in order; rows
// that no others wait for are forgotten.
func (o *Operator) ripe(t int64) []batch {
	var l []batch
	for name, one := range o.shelves {
		l = append(l, one.ripe(o.op.Windows, t)...)
		if len(one.rows) == 0 {
			delete(o.shelves, name)
		}
	}
	slices.SortFunc(l, compare)
	return l
}

// ripe takes the windows of the key that end at a time or ahead of it.
func (s *shelf) ripe(w api.Windows, t int64) []batch {
	if !slices.ContainsFunc(s.rows, func(one kept) bool { return one.next <= t }) {
		return nil
	}
	windowsAt := s.windows(w)
	places := map[api.Window]int{}
	var l []batch
	var left []kept
	for _, one := range s.rows {
		if one.next > t {
			left = append(left, one)
			continue
		}
		windows := windowsAt(one.row.Time)[one.given:]
		for len(windows) > 0 && windows[0].To <= t {
			at, ok := places[windows[0]]
			if !ok {
				at = len(l)
				places[windows[0]] = at
				l = append(l, batch{window: windows[0], key: s.key})
			}
			l[at].rows[one.input] = append(l[at].rows[one.input], one.row)
			one.given++
			windows = windows[1:]
		}
		if len(windows) > 0 {
			one.next = windows[0].To
			left = append(left, one)
		}
	}
	s.rows = left
	return l
}

// windows gives what tells the windows that a time of the key's rows is in:
// sessions of a key are merged.
func (s *shelf) windows(w api.Windows) func(time int64) []api.Window {
	if w.Kind != api.Session {
		return func(time int64) []api.Window { return assigned(w, time) }
	}
	var all []api.Window
	for _, one := range s.rows {
		all = append(all, assigned(w, one.row.Time)...)
	}
	merged := window.Merge(all)
	return func(time int64) []api.Window {
		// They do not meet: it is the last one that does not begin later.
		behind := sort.Search(len(merged), func(i int) bool { return merged[i].From > time })
		return merged[behind-1 : behind]
	}
}

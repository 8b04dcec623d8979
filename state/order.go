package state

import (
	"bytes"
	"maps"
	"slices"

	"streamwright/api"
	"streamwright/value"
	"streamwright/window"
)

// compare tells which of two cells comes first.
func compare(a, b Cell) int {
	if c := window.Compare(a.Window, b.Window); c != 0 {
		return c
	}
	// Rows of the same time are ordered as their values are.
	return value.CompareRows(api.Row{Values: a.Key}, api.Row{Values: b.Key})
}

// Of tells the windows for which a key has data, in order.
func (s *Store) Of(key []api.Value) []api.Window {
	return slices.SortedFunc(maps.Keys(s.shelfOf(key).data), window.Compare)
}

// Ripe gives the cells whose windows end at a time, or ahead of it, in order.
func (s *Store) Ripe(time int64) []Cell {
	var l []Cell
	for _, one := range s.shelves {
		for w, data := range one.data {
			if w.To <= time {
				l = append(l, Cell{Key: slices.Clone(one.key), Window: w, Data: bytes.Clone(data)})
			}
		}
	}
	slices.SortFunc(l, compare)
	return l
}

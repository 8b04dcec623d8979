package state

import (
	"slices"

	"streamwright/api"
	"streamwright/pieces"
	"streamwright/scan"
	"streamwright/tuple"
	"streamwright/value"
	"streamwright/wire"
)

// Save writes what each group has as bytes, group by group.
func (s *Store) Save() []api.Piece {
	var l []api.Piece
	for group, cells := range s.byGroup() {
		if len(cells) > 0 {
			l = append(l, api.Piece{Group: group, Bytes: sealed(cells)})
		}
	}
	return l
}

// byGroup gives the cells of each group, in order, where they are kept.
func (s *Store) byGroup() [api.Groups][]Cell {
	var groups [api.Groups][]Cell
	for _, one := range s.shelves {
		group := value.Group(one.key)
		for w, data := range one.data {
			groups[group] = append(groups[group], Cell{Key: one.key, Window: w, Data: data})
		}
	}
	for _, cells := range groups {
		slices.SortFunc(cells, compare)
	}
	return groups
}

// sealed gives cells as sealed bytes.
func sealed(cells []Cell) []byte {
	body := putCount(nil, len(cells))
	for _, one := range cells {
		body = putCell(body, one)
	}
	// A cell has fewer bytes than it weighs, and what a store may weigh is
	// less than what can be sealed: nothing goes wrong here.
	b, _ := wire.Seal(body)
	return b
}

// putCell writes a cell behind bytes.
func putCell(b []byte, c Cell) []byte {
	b = tuple.Put(putCount(b, len(c.Key)), c.Key)
	b = wire.PutInt(b, c.Window.From)
	b = wire.PutInt(b, c.Window.To)
	return append(putCount(b, len(c.Data)), c.Data...)
}

// putCount writes how many there are of something behind bytes.
func putCount(b []byte, n int) []byte { return wire.PutInt(b, int64(n)) }

// Load forgets all, and reads the pieces of its groups.
func (s *Store) Load(l []api.Piece) error {
	// What was kept stays as it is until nothing can go wrong any more.
	fresh := empty(s.lo, s.hi)
	if err := pieces.Read(l, s.lo, s.hi, fresh.takeBody); err != nil {
		return err
	}
	*s = *fresh
	return nil
}

// takeBody puts the cells of a body there; false: it is none of this group,
// or something stands behind it.
func (s *Store) takeBody(group int, body, behind []byte) bool {
	r := &scan.Reader{Rest: body}
	n, ok := r.Count()
	if !ok || len(behind) > 0 {
		return false
	}
	var last Cell
	for i := range n {
		one, ok := readCell(r)
		if !ok || i > 0 && compare(last, one) >= 0 {
			return false
		}
		if value.Group(one.Key) != group || s.Put(one.Key, one.Window, one.Data) != nil {
			return false
		}
		last = one
	}
	return r.Ended()
}

// readCell reads what has the form of a cell, whether it can be kept or not.
func readCell(r *scan.Reader) (Cell, bool) {
	key, ok := r.Values()
	if !ok {
		return Cell{}, false
	}
	from, ok := r.Int()
	if !ok {
		return Cell{}, false
	}
	to, ok := r.Int()
	if !ok {
		return Cell{}, false
	}
	data, ok := r.Bytes()
	return Cell{Key: key, Window: api.Window{From: from, To: to}, Data: data}, ok
}

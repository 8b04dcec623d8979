package op

import (
	"bytes"
	"cmp"
	"slices"

	"streamwright/api"
	"streamwright/pieces"
	"streamwright/scan"
	"streamwright/tuple"
	"streamwright/value"
	"streamwright/wire"
)

// Save gives what it keeps, group by group. A piece has, sealed part by part,
// the form of the operator, how many rows there are, and of each: the input,
// how many of its windows were given out, its time, how many values, and they.
func (o *Operator) Save() []api.Piece {
	var l []api.Piece
	for group, rows := range o.byGroup() {
		if len(rows) > 0 {
			l = append(l, api.Piece{Group: group, Bytes: o.sealed(rows)})
		}
	}
	return l
}

// byGroup gives the rows of each group, in order.
func (o *Operator) byGroup() [api.Groups][]kept {
	var groups [api.Groups][]kept
	for _, one := range o.shelves {
		group := value.Group(one.key)
		groups[group] = append(groups[group], one.rows...)
	}
	for _, rows := range groups {
		slices.SortFunc(rows, compareKept)
	}
	return groups
}

// compareKept tells which of two rows is written first.
func compareKept(a, b kept) int {
	return cmp.Or(cmp.Compare(a.input, b.input), value.CompareRows(a.row, b.row), cmp.Compare(a.given, b.given))
}

// sealed gives rows as sealed bytes.
func (o *Operator) sealed(rows []kept) []byte {
	body := wire.PutInt(form(o.op), int64(len(rows)))
	for _, one := range rows {
		body = putKept(body, one)
	}
	return inParts(body)
}

func putKept(b []byte, one kept) []byte {
	b = wire.PutInt(b, int64(one.input))
	b = wire.PutInt(b, int64(one.given))
	b = wire.PutInt(b, one.row.Time)
	b = wire.PutInt(b, int64(len(one.row.Values)))
	return tuple.Put(b, one.row.Values)
}

// form tells operators that keep rows apart: what one of another form has
// kept is none of its own. No form is the beginning of another one.
func form(o api.Op) []byte {
	number := func(n int) api.Value { return value.Of(int64(n)) }
	named := func(c api.Column) api.Value { return value.Words(c.Name) }
	kindOf := func(c api.Column) api.Value { return number(int(c.Kind)) }
	return wire.PutRows(nil, []api.Row{
		{Values: []api.Value{number(o.Kind), value.Truth(o.Outer)}},
		{Values: []api.Value{number(o.Windows.Kind), value.Of(o.Windows.Size), value.Of(o.Windows.Step)}},
		listed(o.Columns, named), listed(o.Columns, kindOf),
		listed(o.Right, named), listed(o.Right, kindOf),
		listed(o.Keys, number), listed(o.Others, number), listed(o.Names, value.Words),
		listed(o.Aggs, func(one api.Agg) api.Value { return number(one.Kind) }),
		listed(o.Aggs, func(one api.Agg) api.Value { return number(one.At) }),
	})
}

// listed gives a list as the values of a row.
func listed[T any](l []T, as func(T) api.Value) api.Row {
	var r api.Row
	for _, one := range l {
		r.Values = append(r.Values, as(one))
	}
	return r
}

// Load forgets all, and takes what was kept of its groups.
func (o *Operator) Load(l []api.Piece) error {
	// What was kept stays as it is until nothing can go wrong any more.
	fresh := empty(o.op, o.lo, o.hi)
	if err := pieces.Read(l, o.lo, o.hi, fresh.takeParts); err != nil {
		return err
	}
	*o = *fresh
	return nil
}

// takeParts lays the rows of a body there that is sealed part by part; false:
// no operator of this form has saved it of this group.
func (o *Operator) takeParts(group int, first, behind []byte) bool {
	body, ok := ofParts(first, behind)
	return ok && o.takeBody(group, body)
}

// takeBody lays the rows of a body there.
func (o *Operator) takeBody(group int, body []byte) bool {
	rest, ok := bytes.CutPrefix(body, form(o.op))
	if !ok || !o.keeps() {
		return false
	}
	r := &scan.Reader{Rest: rest}
	n, ok := r.Count()
	if !ok || n == 0 {
		return false
	}
	var last kept
	for range n {
		one, ok := readKept(r)
		if !ok || compareKept(last, one) > 0 || !o.takes(one.input, one.row) {
			return false
		}
		if value.Group(o.keyOf(one.input, one.row)) != group || !o.lay(one) {
			return false
		}
		last = one
	}
	return r.Ended()
}

// readKept reads what has the form of a row that is kept, whether it is one
// or not.
func readKept(r *scan.Reader) (kept, bool) {
	var numbers [3]int64
	for i := range numbers {
		n, ok := r.Int()
		if !ok {
			return kept{}, false
		}
		numbers[i] = n
	}
	values, ok := r.Values()
	row := api.Row{Time: numbers[2], Values: values}
	return kept{input: int(numbers[0]), given: int(numbers[1]), row: row}, ok
}

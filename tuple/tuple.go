// Package tuple has what several layers do with the values of a row.
package tuple

import (
	"streamwright/api"
	"streamwright/value"
	"streamwright/wire"
)

// Fits tells whether values are some of the columns, as doc/03-expr.md says
// (E4).
func Fits(l []api.Value, cols []api.Column) bool {
	if len(l) != len(cols) {
		return false
	}
	for i, v := range l {
		if !value.Valid(v) || v.Kind != api.Null && v.Kind != cols[i].Kind {
			return false
		}
	}
	return true
}

// At gives the values that stand at places, each of which there must be.
func At(l []api.Value, places []int) []api.Value {
	var out []api.Value
	for _, at := range places {
		out = append(out, l[at])
	}
	return out
}

// Name tells lists of valid values apart: lists cannot be held against each
// other by a map, but their bytes can.
func Name(l []api.Value) string { return string(Put(nil, l)) }

// Put writes values behind bytes, one behind the other.
func Put(b []byte, l []api.Value) []byte {
	for _, v := range l {
		b = wire.PutValue(b, v)
	}
	return b
}

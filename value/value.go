// Package value has values and rows: see doc/01-value.md.
package value

import (
	"slices"

	"streamwright/api"
)

// Of makes a value of a number.
func Of(n int64) api.Value { return api.Value{Kind: api.Int, Int: n} }

// Truth makes one of a truth.
func Truth(b bool) api.Value {
	if b {
		return api.Value{Kind: api.Bool, Int: 1}
	}
	return api.Value{Kind: api.Bool}
}

// Words makes one of a text.
func Words(s string) api.Value { return api.Value{Kind: api.Text, Text: s} }

// Valid tells whether a value is one.
func Valid(v api.Value) bool {
	// Making the value anew leaves out whatever its kind does not name.
	switch v.Kind {
	case api.Null:
		return v == api.Value{}
	case api.Int:
		return v == Of(v.Int)
	case api.Bool:
		return v == Truth(v.Int == 1)
	case api.Text:
		return v == Words(v.Text) && len(v.Text) <= api.MaxText
	}
	return false
}

// ValidRow tells whether a row is one.
func ValidRow(r api.Row) bool {
	if r.Time < 0 || r.Time > api.MaxTime || len(r.Values) > api.MaxValues {
		return false
	}
	for _, v := range r.Values {
		if !Valid(v) {
			return false
		}
	}
	return true
}

// Sorted copies rows in their order.
func Sorted(l []api.Row) []api.Row {
	out := make([]api.Row, len(l))
	for i, r := range l {
		out[i] = api.Row{Time: r.Time, Values: slices.Clone(r.Values)}
	}
	slices.SortFunc(out, CompareRows)
	return out
}

package wire

import (
	"streamwright/api"
	"streamwright/scan"
	"streamwright/value"
)

// Rows reads rows, and nothing behind them.
func Rows(b []byte) ([]api.Row, error) {
	r := &scan.Reader{Rest: b}
	l, ok := rows(r)
	if !ok || !r.Ended() {
		return nil, api.ErrWire
	}
	return l, nil
}

// rows reads how many rows there are, and them; false: there are none such.
func rows(r *scan.Reader) ([]api.Row, bool) {
	n, ok := r.Count()
	if !ok {
		return nil, false
	}
	// The count is only claimed: the list grows by what is there.
	var l []api.Row
	for range n {
		one, ok := row(r)
		if !ok {
			return nil, false
		}
		l = append(l, one)
	}
	return l, true
}

// row reads a valid row.
func row(r *scan.Reader) (api.Row, bool) {
	time, ok := r.Int()
	if !ok {
		return api.Row{}, false
	}
	values, ok := r.Values()
	if !ok {
		return api.Row{}, false
	}
	one := api.Row{Time: time, Values: values}
	return one, value.ValidRow(one)
}

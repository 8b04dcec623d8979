package wire

import (
	"streamwright/api"
	"streamwright/value"
)

// Rows reads rows, and nothing behind them.
func Rows(b []byte) ([]api.Row, error) {
	r := reader{rest: b}
	l, ok := r.rows()
	if !ok || len(r.rest) > 0 {
		return nil, api.ErrWire
	}
	return l, nil
}

// reader goes along bytes: each of its methods reads one thing from the
// beginning of the rest; false: there is none.
type reader struct {
	rest []byte
}

func (r *reader) rows() ([]api.Row, bool) {
	n, ok := r.number()
	if !ok || n < 0 {
		return nil, false
	}
	// The count is only claimed: the list grows by what is there.
	var l []api.Row
	for range n {
		row, ok := r.row()
		if !ok {
			return nil, false
		}
		l = append(l, row)
	}
	return l, true
}

func (r *reader) row() (api.Row, bool) {
	time, ok := r.number()
	if !ok {
		return api.Row{}, false
	}
	n, ok := r.number()
	if !ok || n < 0 || n > api.MaxValues {
		return api.Row{}, false
	}
	row := api.Row{Time: time}
	for range n {
		v, ok := r.value()
		if !ok {
			return api.Row{}, false
		}
		row.Values = append(row.Values, v)
	}
	return row, value.ValidRow(row)
}

// value reads what has the form of a value, valid or not.
func (r *reader) value() (api.Value, bool) {
	if len(r.rest) == 0 {
		return api.Value{}, false
	}
	v := api.Value{Kind: api.Kind(r.rest[0])}
	r.rest = r.rest[1:]
	ok := true
	switch v.Kind {
	case api.Int, api.Bool:
		v.Int, ok = r.number()
	case api.Text:
		v.Text, ok = r.text()
	}
	return v, ok
}

func (r *reader) text() (string, bool) {
	n, ok := r.number()
	if !ok || n < 0 || n > int64(len(r.rest)) {
		return "", false
	}
	s := string(r.rest[:n])
	r.rest = r.rest[n:]
	return s, true
}

// lastByte is the index of the last byte that a number can have, of which
// one bit is left for it.
const lastByte = 9

func (r *reader) number() (int64, bool) {
	var u uint64
	for i, c := range r.rest {
		if i == lastByte && c > 1 {
			return 0, false
		}
		u |= uint64(c&127) << (7 * i)
		if c < 128 {
			r.rest = r.rest[i+1:]
			needed := c > 0 || i == 0
			return int64(u>>1) ^ -int64(u&1), needed
		}
	}
	return 0, false
}

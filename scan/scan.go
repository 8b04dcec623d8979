// Package scan goes along bytes, and reads from them what doc/02-wire.md says
// how to write.
package scan

import (
	"bytes"

	"streamwright/api"
)

// Reader goes along bytes: each of its methods reads one thing from the
// beginning of the rest; false: there is none. What it gives, but by Cut, is
// memory of its own.
type Reader struct {
	Rest []byte // what is still to be read
}

// Ended tells whether nothing is left.
func (r *Reader) Ended() bool { return len(r.Rest) == 0 }

// lastByte is the index of the last byte that a number can have, of which
// one bit is left for it.
const lastByte = 9

// Int reads a number that has no more bytes than needed.
func (r *Reader) Int() (int64, bool) {
	var u uint64
	for i, c := range r.Rest {
		if i == lastByte && c > 1 {
			return 0, false
		}
		u |= uint64(c&127) << (7 * i)
		if c < 128 {
			r.Rest = r.Rest[i+1:]
			needed := c > 0 || i == 0
			return int64(u>>1) ^ -int64(u&1), needed
		}
	}
	return 0, false
}

// Count reads how many things follow, of which each has a byte at least: no
// more than there are bytes, so that nobody goes on for what is only claimed.
func (r *Reader) Count() (int, bool) {
	n, ok := r.Int()
	if !ok || n < 0 || n > int64(len(r.Rest)) {
		return 0, false
	}
	return int(n), true
}

// Bytes reads how many bytes there are, and gives a copy of them.
func (r *Reader) Bytes() ([]byte, bool) {
	b, ok := r.Cut()
	return bytes.Clone(b), ok
}

// Cut reads how many bytes there are, and gives them where they stand. Their
// capacity is bounded, so that whoever puts something behind them does not
// write what is still to be read.
func (r *Reader) Cut() ([]byte, bool) {
	n, ok := r.Count()
	if !ok {
		return nil, false
	}
	b := r.Rest[:n:n]
	r.Rest = r.Rest[n:]
	return b, true
}

// Value reads what has the form of a value, valid or not.
func (r *Reader) Value() (api.Value, bool) {
	if r.Ended() {
		return api.Value{}, false
	}
	v := api.Value{Kind: api.Kind(r.Rest[0])}
	r.Rest = r.Rest[1:]
	ok := true
	switch v.Kind {
	case api.Int, api.Bool:
		v.Int, ok = r.Int()
	case api.Text:
		v.Text, ok = r.text()
	}
	return v, ok
}

func (r *Reader) text() (string, bool) {
	b, ok := r.Cut()
	return string(b), ok
}

// Values reads how many values there are, no more than a row may have, and
// them, valid or not.
func (r *Reader) Values() ([]api.Value, bool) {
	n, ok := r.Count()
	if !ok || n > api.MaxValues {
		return nil, false
	}
	var l []api.Value
	for range n {
		v, ok := r.Value()
		if !ok {
			return nil, false
		}
		l = append(l, v)
	}
	return l, true
}

// Package wire has rows as bytes, and bytes with their sums: see doc/02-wire.md.
package wire

import "streamwright/api"

// PutInt writes a number behind bytes.
func PutInt(b []byte, n int64) []byte {
	u := uint64(n)<<1 ^ uint64(n>>63)
	for u >= 128 {
		b = append(b, byte(u)|128)
		u >>= 7
	}
	return append(b, byte(u))
}

// PutValue writes a value behind bytes.
func PutValue(b []byte, v api.Value) []byte {
	b = append(b, byte(v.Kind))
	switch v.Kind {
	case api.Int, api.Bool:
		return PutInt(b, v.Int)
	case api.Text:
		return append(putCount(b, len(v.Text)), v.Text...)
	}
	return b
}

// PutRows writes rows behind bytes.
func PutRows(b []byte, l []api.Row) []byte {
	b = putCount(b, len(l))
	for _, r := range l {
		b = PutInt(b, r.Time)
		b = putCount(b, len(r.Values))
		for _, v := range r.Values {
			b = PutValue(b, v)
		}
	}
	return b
}

// putCount writes how many there are of something behind bytes.
func putCount(b []byte, n int) []byte { return PutInt(b, int64(n)) }

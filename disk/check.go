package disk

import (
	"streamwright/api"
	"streamwright/scan"
	"streamwright/wire"
)

// Pack writes a checkpoint as bytes. Sealed stand the mark; how many offsets,
// and of each node, part and place; how many pieces, and of each node, group,
// how many bytes, and they.
func Pack(c api.Check) ([]byte, error) {
	body := putNumbers(nil, c.Mark, len(c.Offsets))
	for _, one := range c.Offsets {
		body = putNumbers(body, one.Node, one.Part, one.At)
	}
	body = putNumbers(body, len(c.Pieces))
	for _, one := range c.Pieces {
		data := one.Piece.Bytes
		// Pieces can be the same memory many times over: what cannot be
		// sealed is not put together first.
		if len(body)+len(data) > api.MaxBody {
			return nil, api.ErrFull
		}
		body = append(putNumbers(body, one.Node, one.Piece.Group, len(data)), data...)
	}
	return wire.Seal(body)
}

// putNumbers writes numbers behind bytes.
func putNumbers(b []byte, numbers ...int) []byte {
	for _, n := range numbers {
		b = wire.PutInt(b, int64(n))
	}
	return b
}

// Unpack reads a checkpoint.
func Unpack(data []byte) (api.Check, error) {
	body, end, err := wire.Open(data, 0)
	if err != nil {
		return api.Check{}, err
	}
	c, ok := readCheck(&scan.Reader{Rest: body})
	if !ok || end != len(data) {
		return api.Check{}, api.ErrWire
	}
	return c, nil
}

// readCheck reads a checkpoint, behind which nothing stands. Its pieces are
// cut out of the reader's bytes.
func readCheck(r *scan.Reader) (api.Check, bool) {
	var c api.Check
	if !readNumbers(r, &c.Mark) {
		return c, false
	}
	var ok bool
	if c.Offsets, ok = readList(r, readOffset); !ok {
		return c, false
	}
	c.Pieces, ok = readList(r, readHeld)
	return c, ok && r.Ended()
}

// readNumbers reads numbers to their places; false: there are not so many.
func readNumbers(r *scan.Reader, places ...*int) bool {
	for _, place := range places {
		n, ok := r.Int()
		if !ok {
			return false
		}
		*place = int(n)
	}
	return true
}

// readList reads how many there are of something, and them.
func readList[T any](r *scan.Reader, read func(*scan.Reader) (T, bool)) ([]T, bool) {
	n, ok := r.Count()
	if !ok {
		return nil, false
	}
	var l []T
	for range n {
		one, ok := read(r)
		if !ok {
			return nil, false
		}
		l = append(l, one)
	}
	return l, true
}

func readOffset(r *scan.Reader) (api.Offset, bool) {
	var o api.Offset
	ok := readNumbers(r, &o.Node, &o.Part, &o.At)
	return o, ok
}

func readHeld(r *scan.Reader) (api.Held, bool) {
	var h api.Held
	if !readNumbers(r, &h.Node, &h.Piece.Group) {
		return h, false
	}
	var ok bool
	h.Piece.Bytes, ok = r.Cut()
	return h, ok
}

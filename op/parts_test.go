package op_test

import (
	"bytes"
	"fmt"
	"slices"
	"strings"
	"testing"

	"streamwright/api"
	"streamwright/op"
	"streamwright/plain"
	"streamwright/value"
	"streamwright/wire"
)

// texts has eight columns.
func texts() []api.Column {
	return cols("a b c d e f g h", api.Text, api.Text, api.Text, api.Text, api.Text, api.Text, api.Text, api.Text)
}

// fullRow has eight texts that are as long as may be.
func fullRow(time int64) api.Row {
	w := value.Words(strings.Repeat("w", api.MaxText))
	return api.Row{Time: time, Values: slices.Repeat([]api.Value{w}, api.MaxValues)}
}

// countAll counts rows, whatever they are.
func countAll(cols []api.Column, w api.Windows) api.Op {
	return api.Op{Kind: api.OpWindow, Columns: cols, Windows: w, Aggs: []api.Agg{{Kind: api.Count, At: -1}}, Names: []string{"n"}}
}

// laden has so many rows of time 3, of one key.
func laden(t *testing.T, o api.Op, r api.Row, many int) *op.Operator {
	t.Helper()
	x := some(t, o, 0, 32)
	for range many {
		if _, err := x.Row(0, r); err != nil {
			t.Fatal(err)
		}
	}
	return x
}

// TestO5MoreThanABody: the rows of a group have more bytes than can be sealed
// at once.
func TestO5MoreThanABody(t *testing.T) {
	const many = 272000
	o := countAll(texts(), tumble(10))
	x := laden(t, o, fullRow(3), many)
	saved := x.Save()
	if len(saved) != 1 || len(saved[0].Bytes) <= api.MaxBody {
		t.Fatalf("%d pieces", len(saved))
	}
	y := load(t, some(t, o, 0, 32), saved)
	want := fmt.Sprintf("9: %d; ", many)
	told(t, y, api.Forever, want)
	told(t, x, api.Forever, want)
}

// bodyLen tells how many bytes an operator with rows of one group saves.
func bodyLen(t *testing.T, x *op.Operator) int {
	t.Helper()
	n := 0
	for _, part := range partsOf(t, x.Save()[0].Bytes) {
		n += len(part)
	}
	return n
}

// worded has a text of so many bytes.
func worded(n int) api.Row {
	return api.Row{Time: 3, Values: []api.Value{value.Words(strings.Repeat("w", n))}}
}

// upTo has rows that are saved in just so many bytes, and tells how many.
func upTo(t *testing.T, o api.Op, bytes int) (*op.Operator, int) {
	t.Helper()
	const bare, full = 6, 6 + api.MaxText // bytes of rows
	x := laden(t, o, worded(api.MaxText), 100)
	many := 100 + (bytes-bodyLen(t, x))/full - 1
	x = laden(t, o, worded(api.MaxText), many)
	left := bytes - bodyLen(t, x)
	fed(t, x, worded(left/2-bare), worded(left-left/2-bare))
	if n := bodyLen(t, x); n != bytes {
		t.Fatalf("%d bytes, want %d", n, bytes)
	}
	return x, many + 2
}

// TestO5AtTheEndsOfParts: wherever a part ends, no row is lost, and what is
// saved again is the same.
func TestO5AtTheEndsOfParts(t *testing.T) {
	const part = 1 << 16
	o := countAll(cols("a", api.Text), tumble(10))
	for _, c := range []struct{ bytes, parts int }{
		{part - 1, 1}, {part, 1}, {part + 1, 2}, {part + 7, 2}, {part + 8, 2}, {part + 30, 2}, {2*part - 1, 2}, {2 * part, 2}, {2*part + 1, 3}, {5 * part, 5},
	} {
		x, many := upTo(t, o, c.bytes)
		saved := x.Save()
		if n := len(partsOf(t, saved[0].Bytes)); n != c.parts {
			t.Errorf("%d bytes: %d parts, want %d", c.bytes, n, c.parts)
		}
		y := load(t, some(t, o, 0, 32), saved)
		if !samePieces(y.Save(), saved) {
			t.Errorf("%d bytes: what was loaded is saved otherwise", c.bytes)
		}
		told(t, y, api.Forever, fmt.Sprintf("9: %d; ", many))
	}
}

// partsOf gives the bodies that stand sealed one behind the other.
func partsOf(t *testing.T, b []byte) [][]byte {
	t.Helper()
	var l [][]byte
	for at := 0; at < len(b); {
		body, end, err := wire.Open(b, at)
		if err != nil {
			t.Fatal(err)
		}
		l, at = append(l, body), end
	}
	return l
}

// TestO5WrongParts: what is not cut as Save cuts it, or is not all there, was
// not saved.
func TestO5WrongParts(t *testing.T) {
	o := countAll(texts(), tumble(10))
	good := laden(t, o, fullRow(3), 500).Save()[0]
	parts := partsOf(t, good.Bytes)
	if len(parts) != 4 {
		t.Fatalf("%d parts", len(parts))
	}
	as := func(l ...[]byte) api.Piece {
		p := api.Piece{Group: good.Group}
		for _, one := range l {
			p.Bytes = append(p.Bytes, piece(0, one).Bytes...)
		}
		return p
	}
	cut := func(n int) api.Piece { return api.Piece{Group: good.Group, Bytes: good.Bytes[:n]} }
	if !samePiece(as(parts...), good) {
		t.Fatal("the parts are not the whole")
	}
	const sealed = 1<<16 + 8
	short, long := parts[0][:1<<16-1], append(bytes.Clone(parts[0]), parts[1][0])
	for i, c := range []struct {
		p    api.Piece
		want api.Errno
	}{
		{as(parts[:1]...), api.ErrWire}, {as(parts[:3]...), api.ErrWire}, {as(parts[1:]...), api.ErrWire}, {as(parts[0], parts[2], parts[3]), api.ErrWire}, {as(parts[1], parts[0], parts[2], parts[3]), api.ErrWire},
		{as(append(slices.Clone(parts), nil)...), api.ErrWire}, {as(append(slices.Clone(parts), []byte{0})...), api.ErrWire}, {as(append(slices.Clone(parts), parts...)...), api.ErrWire}, {as(parts[0], nil, parts[1], parts[2], parts[3]), api.ErrWire},
		{as(bytes.Join(parts, nil)), api.ErrWire}, {as(bytes.Join(parts[:2], nil), parts[2], parts[3]), api.ErrWire}, {as(parts[0], parts[1], bytes.Join(parts[2:], nil)), api.ErrWire},
		{as(short, parts[0][1<<16-1:], parts[1], parts[2], parts[3]), api.ErrWire}, {as(long, parts[1][1:], parts[2], parts[3]), api.ErrWire}, {as(parts[0], parts[1], parts[2], parts[3][:9], parts[3][9:]), api.ErrWire},
		{cut(len(good.Bytes) - 1), api.ErrWire}, {cut(sealed + 7), api.ErrWire}, {cut(sealed + 1), api.ErrWire}, {cut(sealed - 1), api.ErrWire}, {cut(7), api.ErrWire},
		// K4 speaks of the sum of what stands sealed at the beginning.
		{turned(good, sealed-1), api.ErrSum}, {turned(good, sealed+4), api.ErrWire}, {turned(good, sealed+8), api.ErrWire}, {turned(good, len(good.Bytes)-1), api.ErrWire}, {turned(good, sealed), api.ErrWire},
	} {
		x := fed(t, some(t, o, 0, 32), fullRow(5))
		if err := x.Load([]api.Piece{c.p}); plain.Told(err) != c.want {
			t.Errorf("piece %d: %v, want %v", i, err, c.want)
		}
		told(t, x, api.Forever, "9: 1; ")
	}
	told(t, load(t, some(t, o, 0, 32), []api.Piece{good}), api.Forever, "9: 500; ")
}

package cluster

import (
	"fmt"
	"slices"
	"testing"

	"streamwright/api"
	"streamwright/value"
	"streamwright/wire"
)

// drained writes all that flows of each partition of each node.
func drained(c *Cluster) string {
	s := ""
	for _, parts := range c.in.parts {
		for _, r := range parts {
			for !r.Ended() {
				s += fmt.Sprint(r.Take(), " ")
			}
			s += "| "
		}
		s += "/ "
	}
	return s
}

// TestC1Fresh: a new cluster has nothing on its disk and in its table, and
// nothing was read; what was handed in is not kept.
func TestC1Fresh(t *testing.T) {
	const text = "stream r (n int)\nw = r where n > 0\nstream s (n int) late 3\nsink x = s"
	one := func() []api.Log {
		return []api.Log{{Stream: "s", Parts: [][]api.Row{
			{{Time: 5, Values: []api.Value{value.Of(1)}}, {Time: 1, Values: []api.Value{value.Of(2)}}},
			nil,
			{{Time: 7, Values: []api.Value{value.Of(3)}}},
		}}}
	}
	in := one()
	c, err := New(text, in)
	if err != nil {
		t.Fatal(err)
	}
	if names, loose := c.disk.Names(), c.disk.Loose(); len(names) != 0 || loose != 0 {
		t.Errorf("on the disk there are %v, %d are loose", names, loose)
	}
	if prepared, rows := c.table.Prepared(), c.table.Rows("x"); len(prepared) != 0 || len(rows) != 0 {
		t.Errorf("in the table there are %v and %v", prepared, rows)
	}
	for _, r := range slices.Concat(c.in.parts...) {
		if r.At() != 0 || r.Time() != api.Never {
			t.Errorf("%d were read, the time is %d", r.At(), r.Time())
		}
	}
	for _, part := range in[0].Parts {
		for i := range part {
			part[i].Values[0] = value.Of(99)
			part[i] = api.Row{Time: 99}
		}
	}
	clear(in[0].Parts)
	in[0].Stream = "r"
	const want = "/ / [{1 {5 [{1 1 }]} 0 0} {2 {0 []} 2 0}] [] [{2 {0 []} 1099511627777 0}] | " +
		"[{2 {0 []} 1099511627777 0}] | [{1 {7 [{1 3 }]} 0 0} {2 {0 []} 4 0}] [{2 {0 []} 1099511627777 0}] | / / "
	if got := drained(c); got != want {
		t.Errorf("what flows: %s, want %s", got, want)
	}
}

// filled gives a checkpoint with pieces of so many bytes.
func filled(sizes ...int) api.Check {
	k := api.Check{Mark: 7, Offsets: []api.Offset{{Node: 0, Part: 1, At: 3}, {Node: 0, Part: 0, At: 2}}}
	for i, n := range sizes {
		data := make([]byte, n)
		for at := 0; at < n; at += 1000 {
			data[at] = byte(at/1000 + i)
		}
		k.Pieces = append(k.Pieces, api.Held{Node: i / 2, Piece: api.Piece{Group: i, Bytes: data}})
	}
	return k
}

// same tells whether two checkpoints are.
func same(a, b api.Check) bool {
	return a.Mark == b.Mark && slices.Equal(a.Offsets, b.Offsets) && slices.EqualFunc(a.Pieces, b.Pieces, func(x, y api.Held) bool {
		return x.Node == y.Node && x.Piece.Group == y.Piece.Group && string(x.Piece.Bytes) == string(y.Piece.Bytes)
	})
}

// TestC6Files: a checkpoint is read from its file, and from no part of it.
func TestC6Files(t *testing.T) {
	for _, k := range []api.Check{{Mark: 1}, filled(), filled(0), filled(3, 0, 2500)} {
		data := fileOf(k)
		if got, ok := checkOf(data); !ok || !same(got, k) {
			t.Errorf("of %v there is %v, %v", k, got, ok)
		}
		for n := range data {
			if got, ok := checkOf(data[:n]); ok || !same(got, api.Check{}) {
				t.Errorf("of %v the first %d bytes are whole: %v", k, n, got)
			}
		}
	}
	if _, ok := checkOf(append(fileOf(filled(3)), 0)); ok {
		t.Error("with something behind it, it is whole")
	}
}

// TestC6LongFiles: what is kept can be more than can be packed at once.
func TestC6LongFiles(t *testing.T) {
	const half = api.MaxBody / 2
	k := filled(5, half, half, 7)
	data := fileOf(k)
	if got, ok := checkOf(data); !ok || !same(got, k) {
		t.Fatalf("of so much %v is whole, with %d pieces", ok, len(got.Pieces))
	}
	// Cut where a part ends, it is not whole either.
	_, end, err := wire.Open(data, 0)
	if err != nil || end == len(data) {
		t.Fatal(err, end)
	}
	for _, n := range []int{end, end + 9} {
		if _, ok := checkOf(data[:n]); ok {
			t.Errorf("the first %d of %d bytes are whole", n, len(data))
		}
	}
}

// TestC6Removes: a sync and a start leave the newest checkpoint, and no other
// file.
func TestC6Removes(t *testing.T) {
	c, err := New("stream s (n int)\nsink x = s", nil)
	if err != nil {
		t.Fatal(err)
	}
	left := func(want string, loose int) {
		t.Helper()
		if names := fmt.Sprint(c.disk.Names()); names != want || c.disk.Loose() != loose {
			t.Errorf("on the disk are %s, %d loose, want %s, %d", names, c.disk.Loose(), want, loose)
		}
	}
	acts := func(kinds ...int) {
		for _, kind := range kinds {
			c.Do(api.Act{Kind: kind, Par: []int{1, 1}})
		}
	}
	checkpoint := func() {
		acts(api.ActMark, api.ActRun, api.ActHear)
		for range 3 {
			c.Do(api.Act{Kind: api.ActRun, A: 1})
		}
		acts(api.ActHear)
	}
	acts(api.ActStart)
	checkpoint()
	left("[1]", 1)
	checkpoint()
	left("[1 2]", 2)
	acts(api.ActSync)
	left("[2]", 0)
	for range 8 {
		checkpoint()
	}
	left("[10 2 3 4 5 6 7 8 9]", 8)
	c.Do(api.Act{Kind: api.ActCrash, A: 7})
	left("[10 2 3 4 5 6 7 8 9]", 0)
	acts(api.ActStart)
	left("[9]", 0)
	checkpoint()
	left("[10 9]", 1)
	acts(api.ActSync)
	left("[10]", 0)
	checkpoint()
	acts(api.ActCrash)
	left("[10 11]", 0)
	acts(api.ActStart)
	left("[10]", 0)
}

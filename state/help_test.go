package state_test

import (
	"bytes"
	"encoding/binary"
	"fmt"
	"hash/crc32"
	"slices"
	"strings"
	"testing"

	"streamwright/api"
	"streamwright/plain"
	"streamwright/state"
	"streamwright/value"
)

// Keys by their groups.
const (
	inGroup2  = 1
	inGroup13 = 2
	inGroup14 = 5
	inGroup20 = 7
)

func key(l ...int64) []api.Value {
	var k []api.Value
	for _, n := range l {
		k = append(k, value.Of(n))
	}
	return k
}

func span(from, to int64) api.Window { return api.Window{From: from, To: to} }

func store(t *testing.T, lo, hi int) *state.Store {
	t.Helper()
	s, err := state.New(lo, hi)
	if err != nil || s == nil {
		t.Fatalf("New(%d, %d): %v", lo, hi, err)
	}
	return s
}

func put(t *testing.T, s *state.Store, key []api.Value, w api.Window, data string) {
	t.Helper()
	if err := s.Put(key, w, []byte(data)); err != nil {
		t.Fatalf("Put(%+v, %v, %d bytes): %v", key, w, len(data), err)
	}
}

// tells checks which error it is, and that the store is as it was.
func tells(t *testing.T, what string, s *state.Store, call func() error, want api.Errno) {
	t.Helper()
	before := looks(s)
	if err := call(); plain.Told(err) != want {
		t.Errorf("%s: %v, want %v", what, err, want)
	}
	if after := looks(s); after != before {
		t.Errorf("%s: the store was %s, and is %s", what, before, after)
	}
}

// shown writes cells: the key, the window, the data.
func shown(l []state.Cell) string {
	var b strings.Builder
	for _, c := range l {
		for _, v := range c.Key {
			b.WriteString(value.Show(v) + " ")
		}
		fmt.Fprintf(&b, "%d-%d %x; ", c.Window.From, c.Window.To, c.Data)
	}
	return b.String()
}

const end = int64(api.Forever + api.MaxBound)

// looks writes all that a store has.
func looks(s *state.Store) string { return fmt.Sprint(s.Len(), ": ", shown(s.Ripe(end))) }

// bodyOf writes cells as K4 says, in the order in which they are handed in.
func bodyOf(cells ...state.Cell) []byte {
	b := binary.AppendVarint(nil, int64(len(cells)))
	for _, c := range cells {
		b = binary.AppendVarint(b, int64(len(c.Key)))
		for _, v := range c.Key {
			b = append(b, byte(v.Kind))
			switch v.Kind {
			case api.Int, api.Bool:
				b = binary.AppendVarint(b, v.Int)
			case api.Text:
				b = append(binary.AppendVarint(b, int64(len(v.Text))), v.Text...)
			}
		}
		b = binary.AppendVarint(b, c.Window.From)
		b = binary.AppendVarint(b, c.Window.To)
		b = append(binary.AppendVarint(b, int64(len(c.Data))), c.Data...)
	}
	return b
}

// sealed seals a body as W4 says.
func sealed(body []byte) []byte {
	b := binary.BigEndian.AppendUint32(nil, uint32(len(body)))
	b = binary.BigEndian.AppendUint32(b, crc32.ChecksumIEEE(body))
	return append(b, body...)
}

func piece(group int, body []byte) api.Piece { return api.Piece{Group: group, Bytes: sealed(body)} }

func samePiece(a, b api.Piece) bool { return a.Group == b.Group && bytes.Equal(a.Bytes, b.Bytes) }

func copyPieces(l []api.Piece) []api.Piece {
	l = slices.Clone(l)
	for i := range l {
		l[i].Bytes = bytes.Clone(l[i].Bytes)
	}
	return l
}

// wrongKeys has lists of values that are no keys.
func wrongKeys() [][]api.Value {
	return [][]api.Value{
		make([]api.Value, 9), make([]api.Value, 100000), {{Kind: 4}}, {{Kind: -1}}, {{Kind: 257, Int: inGroup2}},
		{{Int: 1}}, {{Text: "x"}}, {{Kind: api.Int, Int: inGroup2, Text: "x"}}, {{Kind: api.Bool, Int: 2}}, {{Kind: api.Text, Int: 1}},
		{value.Words(strings.Repeat("w", 61))}, {value.Of(1), {Kind: 9}}, {{Kind: 9}, value.Of(1)},
	}
}

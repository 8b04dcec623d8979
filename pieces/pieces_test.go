package pieces_test

import (
	"fmt"
	"math"
	"testing"

	"streamwright/api"
	"streamwright/pieces"
	"streamwright/plain"
	"streamwright/wire"
)

func piece(group int, body string) api.Piece {
	b, _ := wire.Seal([]byte(body))
	return api.Piece{Group: group, Bytes: b}
}

// turned has another sum.
func turned(group int) api.Piece {
	p := piece(group, "body")
	p.Bytes[8] ^= 1
	return p
}

func TestK4Read(t *testing.T) {
	behind := api.Piece{Group: 7, Bytes: append(piece(7, "body").Bytes, "xy"...)}
	for i, c := range []struct {
		l    []api.Piece
		want api.Errno
		took string
	}{
		{nil, api.OK, ""},
		{[]api.Piece{piece(9, "b"), piece(5, "a"), piece(6, "")}, api.OK, "9b 5a 6 "},
		{[]api.Piece{{Group: 4}, piece(5, "a"), turned(10), {Group: 31}, {}}, api.OK, "5a "},
		{[]api.Piece{{Group: -1}}, api.ErrRange, ""}, {[]api.Piece{{Group: 32}}, api.ErrRange, ""}, {[]api.Piece{{Group: math.MinInt}}, api.ErrRange, ""}, {[]api.Piece{{Group: math.MaxInt}}, api.ErrRange, ""},
		{[]api.Piece{piece(5, "a"), piece(5, "a")}, api.ErrState, "5a "}, {[]api.Piece{{Group: 3}, {Group: 3}}, api.ErrState, ""},
		{[]api.Piece{turned(5), {Group: 32}}, api.ErrSum, ""}, {[]api.Piece{{Group: 32}, turned(5)}, api.ErrRange, ""}, {[]api.Piece{piece(5, "a"), turned(5)}, api.ErrState, "5a "},
		{[]api.Piece{{Group: 5}}, api.ErrWire, ""}, {[]api.Piece{behind, piece(5, "a")}, api.OK, "7body+xy 5a "},
		{[]api.Piece{piece(6, "a"), piece(5, "no"), piece(7, "b")}, api.ErrWire, "6a 5no "},
	} {
		took := ""
		err := pieces.Read(c.l, 5, 10, func(group int, body, behind []byte) bool {
			took += fmt.Sprintf("%d%s", group, body)
			if len(behind) > 0 {
				took += "+" + string(behind)
			}
			took += " "
			return string(body) != "no"
		})
		if plain.Told(err) != c.want || took != c.took {
			t.Errorf("list %d: %v, %q, want %v, %q", i, err, took, c.want, c.took)
		}
	}
}

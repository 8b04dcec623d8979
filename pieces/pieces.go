// Package pieces goes through what operators and stores have saved.
package pieces

import (
	"streamwright/api"
	"streamwright/wire"
)

// Read hands, of the pieces of the groups from lo to ahead of hi, the body
// that is sealed at their beginning and the bytes behind it to a function,
// which tells whether it can take them, in the order of the pieces; it ends
// with the first fault, as doc/07-state.md says (K4).
func Read(l []api.Piece, lo, hi int, take func(group int, body, behind []byte) bool) error {
	var met [api.Groups]bool
	for _, one := range l {
		if one.Group < 0 || one.Group >= api.Groups {
			return api.ErrRange
		}
		if met[one.Group] {
			return api.ErrState
		}
		met[one.Group] = true
		if one.Group < lo || one.Group >= hi {
			continue
		}
		body, end, err := wire.Open(one.Bytes, 0)
		if err != nil {
			return err
		}
		if !take(one.Group, body, one.Bytes[end:]) {
			return api.ErrWire
		}
	}
	return nil
}

package op

import (
	"slices"

	"streamwright/wire"
)

// partLen is how many bytes are sealed at once: nothing bounds how many rows
// of a group are kept, but a sealed body is bounded.
const partLen = 1 << 16

// inParts gives a body sealed part by part, each of which but the last one is
// full.
func inParts(body []byte) []byte {
	var b []byte
	for part := range slices.Chunk(body, partLen) {
		// A part is far shorter than what can be sealed: nothing goes wrong here.
		one, _ := wire.Seal(part)
		b = append(b, one...)
	}
	return b
}

// ofParts gives the body of which inParts makes just this: a first part, and
// others, sealed, behind it; false: there is none.
func ofParts(first, behind []byte) ([]byte, bool) {
	body, last := first, len(first)
	for at := 0; at < len(behind); {
		part, end, err := wire.Open(behind, at)
		if err != nil || last != partLen || len(part) == 0 {
			return nil, false
		}
		body, last, at = append(body, part...), len(part), end
	}
	return body, last <= partLen
}

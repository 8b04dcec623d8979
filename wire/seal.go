package wire

import (
	"bytes"

	"streamwright/api"
)

// headLen is how many bytes stand sealed ahead of a body: its length, its sum.
const headLen = 8

// Seal puts its length and its sum ahead of a body.
func Seal(body []byte) ([]byte, error) {
	if len(body) > api.MaxBody {
		return nil, api.ErrFull
	}
	b := make([]byte, 0, headLen+len(body))
	b = putWord(b, uint32(len(body)))
	b = putWord(b, Sum(body))
	return append(b, body...), nil
}

// Open gives the body that stands sealed at a place, and the place behind it.
func Open(b []byte, at int) ([]byte, int, error) {
	if at < 0 || at > len(b)-headLen {
		return nil, 0, api.ErrWire
	}
	n, sum, rest := int(word(b[at:])), word(b[at+4:]), b[at+headLen:]
	if n > api.MaxBody || n > len(rest) {
		return nil, 0, api.ErrWire
	}
	if Sum(rest[:n]) != sum {
		return nil, 0, api.ErrSum
	}
	return bytes.Clone(rest[:n]), at + headLen + n, nil
}

// putWord writes 32 bits behind bytes, the highest first.
func putWord(b []byte, w uint32) []byte {
	return append(b, byte(w>>24), byte(w>>16), byte(w>>8), byte(w))
}

// word reads what putWord writes, at the beginning of bytes.
func word(b []byte) uint32 {
	return uint32(b[0])<<24 | uint32(b[1])<<16 | uint32(b[2])<<8 | uint32(b[3])
}

package value

import "streamwright/api"

const (
	hashStart  = 14695981039346656037
	hashFactor = 1099511628211
)

// Hash of a key.
func Hash(key []api.Value) uint64 {
	h := uint64(hashStart)
	for _, v := range key {
		// The newline keeps keys apart that only cut the same bytes otherwise.
		text := Show(v) + "\n"
		for i := range len(text) {
			h = (h ^ uint64(text[i])) * hashFactor
		}
	}
	return h
}

// Group of a key.
func Group(key []api.Value) int { return int(Hash(key) % api.Groups) }

package value_test

import (
	"hash/fnv"
	"testing"

	"streamwright/api"
	"streamwright/value"
)

func TestV4Hash(t *testing.T) {
	if got := value.Hash(nil); got != 14695981039346656037 {
		t.Errorf("Hash of no values: %d", got)
	}
	if got := value.Hash([]api.Value{value.Of(1)}); got != 574415693772640258 {
		t.Errorf("Hash of the number 1: %d", got)
	}
	for _, key := range keys() {
		sum := fnv.New64a()
		for _, v := range key {
			sum.Write([]byte(value.Show(v) + "\n"))
		}
		if got, want := value.Hash(key), sum.Sum64(); got != want {
			t.Errorf("Hash(%+v): %d, want %d", key, got, want)
		}
	}
	if value.Hash([]api.Value{{Kind: 7}}) == value.Hash(nil) {
		t.Error("a value that is not valid has no newline")
	}
}

func TestV4Group(t *testing.T) {
	for _, c := range []struct {
		key  []api.Value
		want int
	}{
		{nil, 5}, {[]api.Value{value.Of(1)}, 2}, {[]api.Value{value.Words("a")}, 4},
	} {
		if got := value.Group(c.key); got != c.want {
			t.Errorf("Group(%+v): %d, want %d", c.key, got, c.want)
		}
	}
	met := map[int]int{}
	for _, key := range keys() {
		got := value.Group(key)
		if got != int(value.Hash(key)%32) {
			t.Errorf("Group(%+v): %d", key, got)
		}
		met[got]++
	}
	if len(met) != api.Groups {
		t.Errorf("keys are in %d groups only", len(met))
	}
}

// keys has lists of values, valid or not, also more than a row may have.
func keys() [][]api.Value {
	l := [][]api.Value{nil, validValues(), invalidValues()}
	for _, v := range append(validValues(), invalidValues()...) {
		l = append(l, []api.Value{v}, []api.Value{v, {}}, []api.Value{value.Words("k"), v})
	}
	return l
}

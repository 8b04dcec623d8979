package state_test

import (
	"math"
	"math/rand"
	"slices"
	"testing"

	"streamwright/api"
	"streamwright/state"
	"streamwright/value"
)

// ascending has cells in their order.
func ascending() []state.Cell {
	w := []api.Window{span(-1<<20, -7), span(-9, -7), span(-8, -7), span(-5, 3), span(0, 3), span(-1<<20, 4), span(0, end-1), span(-1, end), span(end-1, end)}
	k := [][]api.Value{
		nil, {{}}, {{}, {}}, {{}, value.Of(0)},
		key(math.MinInt64), key(-1), key(2), key(2, -5), key(2, 9), key(2, 10), key(10), key(math.MaxInt64),
		{value.Truth(false)}, {value.Truth(false), {}}, {value.Truth(true)},
		{value.Words("")}, {value.Words("A")}, {value.Words("a")}, {value.Words("a"), value.Words("")}, {value.Words("aa")}, {value.Words("b")}, {value.Words("\xff")},
	}
	var l []state.Cell
	for i := range w {
		for n := range k {
			l = append(l, state.Cell{Key: k[n], Window: w[i], Data: []byte{byte(i), byte(n)}})
		}
	}
	return l
}

// mixed has these cells, put in any order.
func mixed(t *testing.T, seed int64, lo, hi int, cells []state.Cell) *state.Store {
	t.Helper()
	s := store(t, lo, hi)
	for _, i := range rand.New(rand.NewSource(seed)).Perm(len(cells)) {
		if c := cells[i]; s.Owns(c.Key) {
			put(t, s, c.Key, c.Window, string(c.Data))
		}
	}
	return s
}

func TestK3Ripe(t *testing.T) {
	all := ascending()
	for seed := range int64(5) {
		s := mixed(t, seed, 0, 32, all)
		for _, time := range []int64{math.MinInt64, -8, -7, -6, 2, 3, 4, 5, 1 << 30, end - 2, end - 1, end, end + 1, math.MaxInt64} {
			var want []state.Cell
			for _, c := range all {
				if c.Window.To <= time {
					want = append(want, c)
				}
			}
			if got := s.Ripe(time); shown(got) != shown(want) {
				t.Errorf("Ripe(%d): %s, want %s", time, shown(got), shown(want))
			}
		}
		if s.Len() != len(all) {
			t.Error("Ripe takes cells away")
		}
	}
	if got := store(t, 0, 32).Ripe(math.MaxInt64); len(got) != 0 {
		t.Errorf("Ripe of nothing: %v", got)
	}
}

func TestK3Of(t *testing.T) {
	all := ascending()
	s := mixed(t, 9, 0, 32, all)
	for _, one := range all[:22] {
		var want []api.Window
		for _, c := range all {
			if slices.Equal(c.Key, one.Key) {
				want = append(want, c.Window)
			}
		}
		if got := s.Of(one.Key); !slices.Equal(got, want) || len(got) != 9 {
			t.Errorf("Of(%+v): %v, want %v", one.Key, got, want)
		}
	}
	for _, k := range append(wrongKeys(), key(77), key(2, -5, 0), make([]api.Value, 8)) {
		if got := s.Of(k); len(got) != 0 {
			t.Errorf("Of(%+.100v): %v", k, got)
		}
	}
	s.Drop(key(2), span(-5, 3))
	if got := s.Of(key(2)); len(got) != 8 || slices.Contains(got, span(-5, 3)) {
		t.Errorf("Of behind a Drop: %v", got)
	}
}

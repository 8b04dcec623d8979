package state_test

import (
	"fmt"
	"math"
	"slices"
	"strings"
	"testing"

	"streamwright/api"
	"streamwright/plain"
	"streamwright/state"
	"streamwright/value"
)

func TestK1New(t *testing.T) {
	numbers := []int{math.MinInt, -1, 0, 1, 17, 31, 32, 33, math.MaxInt}
	for _, lo := range numbers {
		for _, hi := range numbers {
			s, err := state.New(lo, hi)
			if good := 0 <= lo && lo <= hi && hi <= 32; good && (err != nil || s == nil || s.Len() != 0) {
				t.Errorf("New(%d, %d): %v", lo, hi, err)
			} else if !good && (plain.Told(err) != api.ErrRange || s != nil) {
				t.Errorf("New(%d, %d): %v, want ErrRange", lo, hi, err)
			}
		}
	}
}

func TestK1Owns(t *testing.T) {
	keys := [][]api.Value{nil, {}, key(1), key(2), key(5), key(7), {{}}, make([]api.Value, 8), {value.Words(strings.Repeat("w", 60))}, {value.Truth(true), value.Words("")}}
	for n := range 200 {
		keys = append(keys, key(int64(n), -1))
	}
	for _, bounds := range [][2]int{{0, 32}, {0, 0}, {32, 32}, {5, 6}, {0, 20}, {20, 32}, {31, 32}} {
		s := store(t, bounds[0], bounds[1])
		for _, k := range keys {
			if g := value.Group(k); s.Owns(k) != (g >= bounds[0] && g < bounds[1]) {
				t.Errorf("groups %v, Owns(%+v) of group %d: %v", bounds, k, g, s.Owns(k))
			}
		}
		for _, k := range wrongKeys() {
			if s.Owns(k) {
				t.Errorf("groups %v, Owns(%+.100v)", bounds, k)
			}
		}
	}
}

func TestK1Len(t *testing.T) {
	s := store(t, 0, 32)
	for i, c := range []struct {
		do   func()
		want int
	}{
		{func() {}, 0},
		{func() { put(t, s, key(1), span(0, 1), "") }, 1},
		{func() { put(t, s, key(1), span(0, 1), "other") }, 1},
		{func() { put(t, s, key(1), span(0, 2), "") }, 2},
		{func() { put(t, s, key(2), span(0, 1), "") }, 3},
		{func() { put(t, s, nil, span(0, 1), "") }, 4},
		{func() { s.Put(key(1), span(1, 1), nil) }, 4},
		{func() { s.Drop(key(3), span(0, 1)) }, 4},
		{func() { s.Drop(key(1), span(0, 1)) }, 3},
		{func() { s.Drop(key(1), span(0, 1)) }, 3},
		{func() { s.Load(nil) }, 0},
	} {
		if c.do(); s.Len() != c.want {
			t.Errorf("step %d: Len %d, want %d", i, s.Len(), c.want)
		}
	}
}

func TestK2Script(t *testing.T) {
	s := store(t, 0, 32)
	put(t, s, key(5), span(0, 10), "x")
	put(t, s, key(5), span(0, 10), "y")
	if got, ok := s.Get(key(5), span(0, 10)); string(got) != "y" || !ok {
		t.Errorf("Get: %q, %v", got, ok)
	}
	if !s.Drop(key(5), span(0, 10)) || s.Drop(key(5), span(0, 10)) {
		t.Error("what is dropped is there once")
	}
	if got, ok := s.Get(key(5), span(0, 10)); got != nil || ok {
		t.Errorf("Get of what was dropped: %q, %v", got, ok)
	}
	tells(t, "Put(5, 4 to 4)", s, func() error { return s.Put(key(5), span(4, 4), nil) }, api.ErrRange)
}

func TestK2CellsAreApart(t *testing.T) {
	s := store(t, 0, 32)
	keys := [][]api.Value{
		nil, {{}}, {{}, {}}, key(0), key(1), key(1, 1), key(1, 2), key(2, 1), {value.Of(1), {}}, {{}, value.Of(1)},
		{value.Truth(true)}, {value.Truth(false)}, {value.Words("")}, {value.Words("1")}, {value.Words("true")}, {value.Words("null")},
		{value.Words("a"), value.Words("b")}, {value.Words("ab"), value.Words("")}, {value.Words(""), value.Words("ab")}, {value.Words("ab")},
		{value.Words("\x01\x02")}, make([]api.Value, 8), make([]api.Value, 7),
	}
	windows := []api.Window{span(0, 10), span(0, 11), span(1, 10), span(-1, 10), span(-1<<20, end)}
	text := func(i, k int) string { return fmt.Sprint(i, " ", k) }
	for i := range keys {
		for k := range windows {
			put(t, s, keys[i], windows[k], text(i, k))
		}
	}
	if s.Len() != len(keys)*len(windows) {
		t.Fatalf("Len %d", s.Len())
	}
	for i := range keys {
		for k := range windows {
			if got, ok := s.Get(keys[i], windows[k]); string(got) != text(i, k) || !ok {
				t.Errorf("Get(%+v, %v): %q", keys[i], windows[k], got)
			}
			if !s.Drop(keys[i], windows[k]) {
				t.Errorf("Drop(%+v, %v)", keys[i], windows[k])
			}
			if _, ok := s.Get(keys[i], windows[k]); ok {
				t.Errorf("Get(%+v, %v) of what was dropped", keys[i], windows[k])
			}
		}
	}
	if s.Len() != 0 || len(s.Save()) != 0 {
		t.Error("all was dropped")
	}
}

func TestK2Windows(t *testing.T) {
	s := store(t, 0, 32)
	bounds := []int64{math.MinInt64, -1<<20 - 1, -1 << 20, -1, 0, 1, api.MaxTime, api.Forever, end - 1, end, end + 1, math.MaxInt64}
	for _, from := range bounds {
		for _, to := range bounds {
			if from >= -1<<20 && from < to && to <= end {
				put(t, s, key(5), span(from, to), "d")
				if !s.Drop(key(5), span(from, to)) {
					t.Errorf("no cell from %d to %d", from, to)
				}
				continue
			}
			what := fmt.Sprintf("Put from %d to %d", from, to)
			tells(t, what, s, func() error { return s.Put(key(5), span(from, to), nil) }, api.ErrRange)
			if _, ok := s.Get(key(5), span(from, to)); ok || s.Drop(key(5), span(from, to)) {
				t.Errorf("a cell from %d to %d", from, to)
			}
		}
	}
}

func TestK2KeysThatAreNotOwned(t *testing.T) {
	s := store(t, 0, 20)
	put(t, s, key(1), span(0, 10), "x")
	put(t, s, key(5), span(0, 10), "y")
	for _, k := range append(wrongKeys(), key(inGroup20)) {
		what := fmt.Sprintf("Put(%+.100v)", k)
		tells(t, what, s, func() error { return s.Put(k, span(0, 10), []byte("z")) }, api.ErrRange)
		if got, ok := s.Get(k, span(0, 10)); got != nil || ok {
			t.Errorf("Get(%+.100v): %q", k, got)
		}
		if s.Drop(k, span(0, 10)) || len(s.Of(k)) != 0 {
			t.Errorf("a cell of %+.100v", k)
		}
	}
}

func TestK2Weight(t *testing.T) {
	most := make([]byte, api.MaxKept)
	for n := range 9 {
		k, room := make([]api.Value, n), api.MaxKept-32-64*n
		s := store(t, 0, 32)
		if err := s.Put(k, span(0, 1), most[:room+1]); plain.Told(err) != api.ErrFull || s.Len() != 0 {
			t.Errorf("a cell of %d values that weighs too much: %v", n, err)
		}
		if err := s.Put(k, span(0, 1), most[:room]); err != nil {
			t.Errorf("a cell of %d values that weighs MaxKept: %v", n, err)
		}
		if err := s.Put(k, span(0, 2), nil); plain.Told(err) != api.ErrFull || s.Len() != 1 {
			t.Errorf("a cell beside what weighs MaxKept: %v", err)
		}
		if err := s.Put(k, span(2, 2), nil); plain.Told(err) != api.ErrRange {
			t.Errorf("a window that is none, and too much: %v, want ErrRange", err)
		}
	}
}

func TestK2WeightOfManyCells(t *testing.T) {
	s := store(t, 0, 32)
	most := make([]byte, api.MaxKept)
	put(t, s, key(1, 2), span(0, 1), "abc")     // 163
	put(t, s, nil, span(0, 1), "")              // 32
	put(t, s, key(1), span(0, 1), "0123456789") // 106
	room := api.MaxKept - 163 - 32 - 106 - 32
	full := func(n int, want api.Errno) {
		t.Helper()
		if err := s.Put(nil, span(0, 2), most[:n]); plain.Told(err) != want {
			t.Errorf("%d bytes: %v, want %v", n, err, want)
		}
	}
	full(room+1, api.ErrFull)
	full(room, api.OK)
	full(room, api.OK) // in place of the same
	full(room+1, api.ErrFull)
	if got, ok := s.Get(nil, span(0, 2)); len(got) != room || !ok {
		t.Errorf("%d bytes are left of %d", len(got), room)
	}
	if err := s.Put(key(1), span(0, 1), []byte("0123456789a")); plain.Told(err) != api.ErrFull {
		t.Errorf("a byte more of another cell: %v", err)
	}
	put(t, s, key(1), span(0, 1), "012345678")
	full(room+1, api.OK)
	full(room+2, api.ErrFull)
	s.Drop(key(1, 2), span(0, 1))
	full(room+164, api.OK)
	full(room+165, api.ErrFull)
	s.Drop(key(9), span(0, 1))
	full(room+165, api.ErrFull)
	s.Drop(nil, span(0, 2))
	full(room+164, api.OK)
	s.Load(nil)
	full(api.MaxKept-32, api.OK)
	full(api.MaxKept-31, api.ErrFull)
}

func TestP2NothingIsShared(t *testing.T) {
	s := store(t, 0, 32)
	k, data := []api.Value{value.Words("k")}, []byte("data")
	if err := s.Put(k, span(0, 1), data); err != nil {
		t.Fatal(err)
	}
	put(t, s, k, span(0, 2), "more")
	k[0], data[0] = value.Words("other"), 'X'
	k = []api.Value{value.Words("k")}
	want := "2: 'k' 0-1 64617461; 'k' 0-2 6d6f7265; "
	check := func(what string) {
		t.Helper()
		if got := looks(s); got != want {
			t.Errorf("%s: %s, want %s", what, got, want)
		}
	}
	check("Put")
	got, _ := s.Get(k, span(0, 1))
	clear(got)
	check("Get")
	clear(s.Of(k))
	if l := s.Of(k); !slices.Equal(l, []api.Window{span(0, 1), span(0, 2)}) {
		t.Errorf("Of: %v", l)
	}
	ripe := s.Ripe(end)
	for i := range ripe {
		clear(ripe[i].Key)
		clear(ripe[i].Data[:cap(ripe[i].Data)])
		if i == 0 && shown(ripe[1:]) != "'k' 0-2 6d6f7265; " {
			t.Error("two cells that come out share memory")
		}
	}
	check("Ripe")
	pieces := s.Save()
	saved := copyPieces(pieces)
	if err := s.Load(pieces); err != nil || !slices.EqualFunc(pieces, saved, samePiece) {
		t.Errorf("Load: %v, %+v", err, pieces)
	}
	clear(pieces[0].Bytes)
	check("Load")
	if !slices.EqualFunc(s.Save(), saved, samePiece) {
		t.Error("Save")
	}
}

func ExampleStore() {
	s, _ := state.New(0, 32)
	five, ten := []api.Value{value.Of(5)}, api.Window{From: 0, To: 10}
	s.Put(five, ten, []byte("x"))
	s.Put(five, ten, []byte("y"))
	data, _ := s.Get(five, ten)
	fmt.Println(string(data), s.Drop(five, ten), s.Drop(five, ten))
	fmt.Println(s.Put(five, api.Window{From: 4, To: 4}, nil))
	// Output:
	// y true false
	// ErrRange
}

package state_test

import (
	"math/rand"
	"slices"
	"strings"
	"testing"

	"streamwright/api"
	"streamwright/plain"
	"streamwright/state"
	"streamwright/value"
)

// list is a store by the words of the chapter: all cells, in any order.
type list struct {
	lo, hi int
	cells  []state.Cell
}

func (l *list) place(c state.Cell) int {
	return slices.IndexFunc(l.cells, func(x state.Cell) bool { return x.Window == c.Window && slices.Equal(x.Key, c.Key) })
}

func (l *list) drop(c state.Cell) bool {
	i := l.place(c)
	if i >= 0 {
		l.cells = slices.Delete(l.cells, i, i+1)
	}
	return i >= 0
}

func (l *list) put(c state.Cell) bool {
	g := value.Group(c.Key)
	if g < l.lo || g >= l.hi || c.Window.From >= c.Window.To {
		return false
	}
	l.drop(c)
	l.cells = append(l.cells, c)
	return true
}

// ordered gives the cells whose windows end at a time or ahead of it, by K3.
func (l *list) ordered(time int64) []state.Cell {
	var out []state.Cell
	for _, c := range l.cells {
		if c.Window.To <= time {
			out = append(out, c)
		}
	}
	slices.SortFunc(out, func(a, b state.Cell) int {
		switch {
		case a.Window.To != b.Window.To:
			return int(a.Window.To - b.Window.To)
		case a.Window.From != b.Window.From:
			return int(a.Window.From - b.Window.From)
		}
		return slices.CompareFunc(a.Key, b.Key, value.Compare)
	})
	return out
}

func someCell(rnd *rand.Rand) state.Cell {
	some := []api.Value{{}, value.Of(0), value.Of(1), value.Of(-70), value.Truth(true), value.Words(""), value.Words("ab")}
	c := state.Cell{Window: span(int64(rnd.Intn(9)-2), int64(rnd.Intn(9)))}
	for range rnd.Intn(3) {
		c.Key = append(c.Key, some[rnd.Intn(len(some))])
	}
	c.Data = []byte(strings.Repeat("d", rnd.Intn(3)))
	return c
}

func (l *list) check(t *testing.T, s *state.Store, c state.Cell) {
	t.Helper()
	if s.Len() != len(l.cells) {
		t.Fatalf("Len %d, want %d", s.Len(), len(l.cells))
	}
	data, ok := s.Get(c.Key, c.Window)
	if i := l.place(c); ok != (i >= 0) || ok && string(data) != string(l.cells[i].Data) {
		t.Fatalf("Get(%+v): %q, %v", c, data, ok)
	}
	var windows []api.Window
	for _, x := range l.ordered(end) {
		if slices.Equal(x.Key, c.Key) {
			windows = append(windows, x.Window)
		}
	}
	if got := s.Of(c.Key); !slices.Equal(got, windows) {
		t.Fatalf("Of(%+v): %v, want %v", c.Key, got, windows)
	}
	if got, want := shown(s.Ripe(c.Window.To)), shown(l.ordered(c.Window.To)); got != want {
		t.Fatalf("Ripe(%d): %s, want %s", c.Window.To, got, want)
	}
}

func TestK1ToK4AtRandom(t *testing.T) {
	rnd := rand.New(rand.NewSource(4))
	for range 60 {
		l := &list{lo: rnd.Intn(20), hi: 20 + rnd.Intn(13)}
		s := store(t, l.lo, l.hi)
		for range 200 {
			c := someCell(rnd)
			if rnd.Intn(3) == 0 {
				if got, want := s.Drop(c.Key, c.Window), l.drop(c); got != want {
					t.Fatalf("Drop(%+v): %v", c, got)
				}
			} else if err := s.Put(c.Key, c.Window, c.Data); (err == nil) != l.put(c) || err != nil && plain.Told(err) != api.ErrRange {
				t.Fatalf("Put(%+v): %v", c, err)
			}
			l.check(t, s, c)
		}
		pieces := s.Save()
		if want := piecesOf(l.ordered(end)); !slices.EqualFunc(pieces, want, samePiece) {
			t.Fatalf("Save: %x, want %x", pieces, want)
		}
		// What was kept is spread over other stores, and put together again.
		cut := rnd.Intn(33)
		low, high := store(t, 0, cut), store(t, cut, 32)
		if low.Load(pieces) != nil || high.Load(pieces) != nil {
			t.Fatal("Load of what Save gave")
		}
		if both := slices.Concat(low.Save(), high.Save()); !slices.EqualFunc(pieces, both, samePiece) {
			t.Fatalf("cut at %d: %x, want %x", cut, both, pieces)
		}
	}
}

// turnedBody changes some bytes of a body.
func turnedBody(rnd *rand.Rand, body []byte) []byte {
	for range 1 + rnd.Intn(2) {
		at := rnd.Intn(len(body) + 1)
		switch rnd.Intn(3) {
		case 0:
			body = slices.Insert(body, at, byte(rnd.Intn(12)))
		case 1:
			body = slices.Delete(body, at, min(at+1, len(body)))
		case 2:
			if at < len(body) {
				body[at] = byte(rnd.Intn(256))
			}
		}
	}
	return body
}

// TestK4LoadTakesWhatSaveWrites: there is one body for cells, and no other is
// taken.
func TestK4LoadTakesWhatSaveWrites(t *testing.T) {
	rnd := rand.New(rand.NewSource(5))
	cells := []state.Cell{cell(key(5), -1, 4, "v"), cell(key(5), 0, 10, "y"), cell(key(5), 0, 300, ""), cell(key(5), 0, 301, "\x00\x00")}
	taken, refused := 0, 0
	for range 50000 {
		one := piece(14, turnedBody(rnd, bodyOf(cells[:1+rnd.Intn(4)]...)))
		s := store(t, 0, 32)
		put(t, s, key(7), span(0, 10), "stays")
		switch err := s.Load([]api.Piece{one}); {
		case err != nil:
			refused++
			if plain.Told(err) != api.ErrWire || looks(s) != "1: 7 0-10 7374617973; " {
				t.Fatalf("Load(%x): %v, %s", one.Bytes, err, looks(s))
			}
		case s.Len() > 0:
			taken++
			if got := s.Save(); len(got) != 1 || !samePiece(got[0], one) {
				t.Fatalf("Load took %x for %x", one.Bytes, got)
			}
		}
	}
	if taken < 1000 || refused < 1000 {
		t.Errorf("%d were taken, %d refused", taken, refused)
	}
}

func TestK2ToK4OfManyCells(t *testing.T) {
	const many = 100000
	s := store(t, 0, 32)
	for i := range int64(many) {
		put(t, s, key(i%1000), span(-(i%7), 1+i), "d")
	}
	if s.Len() != many || len(s.Of(key(17))) != many/1000 || len(s.Ripe(many/2)) != many/2 {
		t.Errorf("Len %d", s.Len())
	}
	again := store(t, 0, 32)
	if err := again.Load(s.Save()); err != nil || !slices.EqualFunc(again.Save(), s.Save(), samePiece) {
		t.Errorf("Load: %v", err)
	}
	for i := range int64(many) {
		if !s.Drop(key(i%1000), span(-(i%7), 1+i)) {
			t.Fatalf("Drop of cell %d", i)
		}
	}
	if s.Len() != 0 || len(s.Save()) != 0 {
		t.Errorf("Len %d", s.Len())
	}
}

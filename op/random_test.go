package op_test

import (
	"math/rand"
	"slices"
	"testing"

	"streamwright/api"
	"streamwright/op"
	"streamwright/plain"
	"streamwright/value"
)

// held is a row that came in, with the windows in which it was given out.
type held struct {
	input int
	row   api.Row
	given map[api.Window]bool
}

// book is an operator by the words of the chapter: it keeps all that ever
// came in, and looks at all windows that there can be.
type book struct {
	o    api.Op
	time int64
	rows []held
}

// in tells whether a window has a time.
func in(w api.Window, time int64) bool { return w.From <= time && time < w.To }

// meets tells whether a session and a row's own window have a time in common.
func meets(a, b api.Window) bool { return max(a.From, b.From) < min(a.To, b.To) }

// sessions joins the windows of rows until none meet.
func sessions(rows []held, size int64) []api.Window {
	var l []api.Window
	for _, h := range rows {
		w := api.Window{From: h.row.Time, To: h.row.Time + size}
		for i := 0; i < len(l); i++ {
			if meets(l[i], w) {
				w = api.Window{From: min(w.From, l[i].From), To: max(w.To, l[i].To)}
				l = slices.Delete(l, i, i+1)
				i = -1
			}
		}
		l = append(l, w)
	}
	return l
}

// windows gives all that a key can have up to a time.
func (b *book) windows(rows []held, time int64) []api.Window {
	w := b.o.Windows
	var l []api.Window
	switch w.Kind {
	case api.Session:
		l = sessions(rows, w.Size)
	case api.Whole:
		l = append(l, api.Window{From: 0, To: api.Forever})
	case api.Tumble:
		for from := int64(0); from <= 400; from += w.Size {
			l = append(l, api.Window{From: from, To: from + w.Size})
		}
	case api.Slide:
		for from := -20 * w.Step; from <= 400; from += w.Step {
			l = append(l, api.Window{From: from, To: from + w.Size})
		}
	}
	return slices.DeleteFunc(l, func(w api.Window) bool { return w.To > time })
}

func (b *book) key(h held) []api.Value {
	places := b.o.Keys
	if h.input == 1 {
		places = b.o.Others
	}
	var key []api.Value
	for _, at := range places {
		key = append(key, h.row.Values[at])
	}
	return key
}

// keys gives those of all rows, in order, and the rows of each.
func (b *book) keys() (keys [][]api.Value, rows [][]held) {
	for _, h := range b.rows {
		keys = append(keys, b.key(h))
	}
	less := func(x, y []api.Value) int { return slices.CompareFunc(x, y, value.Compare) }
	slices.SortFunc(keys, less)
	keys = slices.CompactFunc(keys, func(x, y []api.Value) bool { return less(x, y) == 0 })
	for _, key := range keys {
		var own []held
		for _, h := range b.rows {
			if less(b.key(h), key) == 0 && !h.given[api.Window{}] {
				own = append(own, h)
			}
		}
		rows = append(rows, own)
	}
	return keys, rows
}

// tell tells a time, and gives what comes out.
func (b *book) tell(time int64) []api.Row {
	b.time = time
	type part struct {
		w    api.Window
		rows []api.Row
	}
	var parts []part
	keys, rows := b.keys()
	for i, key := range keys {
		for _, w := range b.windows(rows[i], time) {
			var inputs [2][]api.Row
			for _, h := range rows[i] {
				if in(w, h.row.Time) && !h.given[w] {
					inputs[h.input] = append(inputs[h.input], h.row)
					h.given[w] = true
					// A session is given out as a whole: nothing of it is left.
					h.given[api.Window{}] = b.o.Windows.Kind == api.Session
				}
			}
			if len(inputs[0])+len(inputs[1]) > 0 {
				parts = append(parts, part{w, b.come(w, key, inputs)})
			}
		}
	}
	slices.SortStableFunc(parts, func(x, y part) int {
		if x.w.To != y.w.To {
			return int(x.w.To - y.w.To)
		}
		return int(x.w.From - y.w.From)
	})
	var out []api.Row
	for _, p := range parts {
		out = append(out, p.rows...)
	}
	return out
}

// come gives what comes of a window.
func (b *book) come(w api.Window, key []api.Value, inputs [2][]api.Row) (out []api.Row) {
	if b.o.Kind == api.OpWindow {
		sum, seen := int64(0), false
		for _, r := range inputs[0] {
			sum += r.Values[1].Int
			seen = seen || r.Values[1].Kind == api.Int
		}
		total := api.Value{}
		if seen {
			total = value.Of(sum)
		}
		return []api.Row{{Time: w.To - 1, Values: append(slices.Clone(key), value.Of(int64(len(inputs[0]))), total)}}
	}
	for i := range inputs {
		slices.SortFunc(inputs[i], value.CompareRows)
	}
	if len(inputs[1]) == 0 && b.o.Outer {
		inputs[1] = []api.Row{{Values: []api.Value{{}, {}}}}
	}
	for _, x := range inputs[0] {
		for _, y := range inputs[1] {
			out = append(out, api.Row{Time: w.To - 1, Values: slices.Concat(x.Values, y.Values)})
		}
	}
	return out
}

func someOp(rnd *rand.Rand) api.Op {
	w := []api.Windows{tumble(1), tumble(7), slide(10, 3), slide(6, 6), slide(9, 1), slide(8, 4), session(1), session(4), session(9), whole()}[rnd.Intn(10)]
	if rnd.Intn(2) == 0 {
		return joined(w, rnd.Intn(2) == 0)
	}
	o := counted(w)
	o.Aggs, o.Names = append(o.Aggs, api.Agg{Kind: api.Sum, At: 1}), append(o.Names, "s")
	if rnd.Intn(4) == 0 {
		o.Keys = nil
	}
	return o
}

func someRow(rnd *rand.Rand, from int64) api.Row {
	r := row(from+int64(rnd.Intn(25)), int64(rnd.Intn(5)), int64(rnd.Intn(3)))
	if rnd.Intn(6) == 0 {
		r.Values[rnd.Intn(2)] = api.Value{}
	}
	return r
}

// fleet does an operator's work with several, which have the groups between
// cuts.
type fleet struct {
	cuts []int
	l    []*op.Operator
}

func newFleet(t *testing.T, rnd *rand.Rand, o api.Op) *fleet {
	f := &fleet{cuts: []int{0, 32}}
	for range rnd.Intn(4) {
		f.cuts = append(f.cuts, rnd.Intn(33))
	}
	slices.Sort(f.cuts)
	for i := range f.cuts[1:] {
		f.l = append(f.l, some(t, o, f.cuts[i], f.cuts[i+1]))
	}
	return f
}

// take hands a row to all: just one may take it.
func (f *fleet) take(t *testing.T, input int, r api.Row) {
	t.Helper()
	took := 0
	for _, x := range f.l {
		l, err := x.Row(input, r)
		if err == nil {
			took++
		} else if plain.Told(err) != api.ErrRange {
			t.Fatalf("Row(%d, %+v): %v", input, r, err)
		}
		if len(l) > 0 {
			t.Fatalf("Row(%d, %+v): %s", input, r, shown(l))
		}
	}
	if took != 1 {
		t.Fatalf("Row(%d, %+v): %d take it", input, r, took)
	}
}

func (f *fleet) tell(t *testing.T, time int64) (out []api.Row) {
	t.Helper()
	for _, x := range f.l {
		l, err := x.Time(time)
		if err != nil {
			t.Fatalf("Time(%d): %v", time, err)
		}
		out = append(out, l...)
	}
	return out
}

// move saves all, and goes on with others.
func (f *fleet) move(t *testing.T, rnd *rand.Rand, o api.Op) *fleet {
	t.Helper()
	var saved []api.Piece
	for _, x := range f.l {
		saved = append(saved, x.Save()...)
	}
	rnd.Shuffle(len(saved), func(i, k int) { saved[i], saved[k] = saved[k], saved[i] })
	next := newFleet(t, rnd, o)
	for _, x := range next.l {
		load(t, x, saved)
	}
	return next
}

// TestO3ToO5AtRandom: many operators that are moved give out what the words
// of the chapter say, those that have all groups in the order that they say.
func TestO3ToO5AtRandom(t *testing.T) {
	rnd := rand.New(rand.NewSource(6))
	given := 0
	for range 1500 {
		o := someOp(rnd)
		b := &book{o: o, time: api.Never}
		f := newFleet(t, rnd, o)
		for range rnd.Intn(60) {
			switch rnd.Intn(8) {
			case 0:
				f = f.move(t, rnd, o)
				if rnd.Intn(3) == 0 {
					b.time = api.Never // from here on earlier rows may come
				} else if l := f.tell(t, b.time); len(l) > 0 {
					t.Fatalf("%+v: Time(%d) again: %s", o, b.time, shown(l))
				}
			case 1, 2:
				time := min(max(b.time, 0)+int64(rnd.Intn(12)), api.Forever)
				if rnd.Intn(40) == 0 {
					time = api.Forever
				}
				got, want := f.tell(t, time), b.tell(time)
				given += len(want)
				if len(f.l) > 1 {
					got, want = value.Sorted(got), value.Sorted(want)
				}
				if shown(got) != shown(want) {
					t.Fatalf("%+v: Time(%d): %s, want %s", o, time, shown(got), shown(want))
				}
			default:
				r, input := someRow(rnd, max(b.time, 0)), 0
				if o.Kind == api.OpJoin {
					input = rnd.Intn(2)
				}
				if b.time < api.Forever {
					f.take(t, input, r)
					b.rows = append(b.rows, held{input, r, map[api.Window]bool{}})
				}
			}
		}
	}
	if given < 10000 {
		t.Errorf("only %d rows were given out", given)
	}
}

// turnedBody changes some bytes of a body.
func turnedBody(rnd *rand.Rand, body []byte) []byte {
	for range 1 + rnd.Intn(2) {
		at := len(body) - rnd.Intn(30)
		switch rnd.Intn(3) {
		case 0:
			body = slices.Insert(body, at, byte(rnd.Intn(12)))
		case 1:
			body = slices.Delete(body, at, min(at+1, len(body)))
		case 2:
			if at < len(body) {
				body[at] = byte(rnd.Intn(16))
			}
		}
	}
	return body
}

// TestO5LoadTakesWhatSaveWrites: there is one body for what is kept, and no
// other is taken.
func TestO5LoadTakesWhatSaveWrites(t *testing.T) {
	rnd := rand.New(rand.NewSource(7))
	taken, refused := 0, 0
	for range 20000 {
		o := someOp(rnd)
		x := some(t, o, 0, 32)
		for range 1 + rnd.Intn(4) {
			x.Row(rnd.Intn(2), row(int64(rnd.Intn(9)), inGroup14, int64(rnd.Intn(3))))
		}
		x.Time(int64(rnd.Intn(4)))
		saved := x.Save()
		if len(saved) == 0 {
			continue
		}
		one := piece(saved[0].Group, turnedBody(rnd, slices.Clone(saved[0].Bytes[8:])))
		y := some(t, o, 0, 32)
		if err := y.Load([]api.Piece{one}); err == nil {
			taken++
			if got := y.Save(); len(got) != 1 || !samePiece(got[0], one) {
				t.Fatalf("Load took %x for %x", one.Bytes, got)
			}
		} else {
			refused++
			if plain.Told(err) != api.ErrWire || len(y.Save()) != 0 {
				t.Fatalf("Load(%x): %v", one.Bytes, err)
			}
		}
	}
	if taken < 500 || refused < 500 {
		t.Errorf("%d were taken, %d refused", taken, refused)
	}
}

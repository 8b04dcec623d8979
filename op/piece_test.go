package op_test

import (
	"bytes"
	"fmt"
	"math"
	"slices"
	"testing"

	"streamwright/api"
	"streamwright/op"
	"streamwright/plain"
	"streamwright/state"
	"streamwright/value"
	"streamwright/wire"
)

// load loads pieces that must be taken.
func load(t *testing.T, x *op.Operator, l []api.Piece) *op.Operator {
	t.Helper()
	if err := x.Load(l); err != nil {
		t.Fatalf("Load: %v", err)
	}
	return x
}

// moved is an operator of the same groups that has loaded what one saved.
func moved(t *testing.T, o api.Op, x *op.Operator) *op.Operator {
	t.Helper()
	return load(t, some(t, o, 0, 32), x.Save())
}

func TestO5SaveByGroups(t *testing.T) {
	for _, o := range []api.Op{counted(tumble(10)), joined(session(5), false)} {
		x := some(t, o, 0, 32)
		if l := x.Save(); len(l) != 0 {
			t.Errorf("Save of nothing: %v", l)
		}
		fed(t, x, row(3, inGroup20, 0), row(3, inGroup2, 0), row(4, inGroup14, 0), row(35, inGroup2, 0), row(3, inGroup13, 0))
		var groups []int
		for _, p := range x.Save() {
			groups = append(groups, p.Group)
		}
		if !slices.Equal(groups, []int{2, 13, 14, 20}) {
			t.Errorf("groups %v", groups)
		}
		if !samePieces(x.Save(), x.Save()) {
			t.Error("Save changes something")
		}
		x.Time(30)
		if l := x.Save(); len(l) != 1 || l[0].Group != 2 {
			t.Errorf("what was given out is kept: %v", l)
		}
		x.Time(api.Forever)
		if l := x.Save(); len(l) != 0 {
			t.Errorf("what was given out is kept: %v", l)
		}
	}
}

// TestO5SaveHangsOnWhatIsKept: not on the order in which rows came, nor on
// that of a map.
func TestO5SaveHangsOnWhatIsKept(t *testing.T) {
	rows := []api.Row{row(3, 1, 2), row(3, 1, 1), row(1, 33, 4), row(2, 1, 1), row(3, 1, 1), row(9, 65, 0)}
	for k := range int64(200) {
		rows = append(rows, row(k%7, k, k))
	}
	want := fed(t, some(t, counted(slide(10, 2)), 0, 32), rows...).Save()
	for range 5 {
		slices.Reverse(rows)
		if got := fed(t, some(t, counted(slide(10, 2)), 0, 32), rows...).Save(); !samePieces(got, want) {
			t.Error("the order of the rows is to be seen")
		}
		rows = append(rows[2:], rows[:2]...)
	}
}

func TestO5OthersKeepNothing(t *testing.T) {
	for _, o := range []api.Op{where("b"), mapped("a"), {Kind: api.OpUnion, Columns: abc()}, {Kind: api.OpSink, Columns: abc()}} {
		x := some(t, o, 0, 20)
		x.Row(0, mixed(3, 4, true, "w"))
		told(t, x, 8, "")
		if l := x.Save(); len(l) != 0 {
			t.Errorf("%+v: %v", o, l)
		}
		refused(t, x, 0, mixed(7, 4, true, "w"), api.ErrState)
		for _, c := range []struct {
			p    api.Piece
			want api.Errno
		}{
			{piece(3, nil), api.ErrWire}, {piece(3, []byte{0}), api.ErrWire}, {api.Piece{Group: 3}, api.ErrWire}, {api.Piece{Group: 32}, api.ErrRange}, {turned(piece(3, nil), 4), api.ErrSum},
		} {
			if err := x.Load([]api.Piece{c.p}); plain.Told(err) != c.want {
				t.Errorf("%+v: Load(%+v): %v", o, c.p, err)
			}
		}
		refused(t, x, 0, mixed(7, 4, true, "w"), api.ErrState)
		load(t, x, []api.Piece{{Group: 20}, piece(31, nil)}) // of others
		if _, err := x.Row(0, mixed(0, 4, true, "w")); err != nil {
			t.Errorf("behind Load the time is not Never: %v", err)
		}
	}
}

// TestO5OthersTakeNoRows: not even under their own form.
func TestO5OthersTakeNoRows(t *testing.T) {
	l := fed(t, some(t, counted(tumble(10)), 0, 32), row(3, 1, 1)).Save()
	body, _, _ := wire.Open(l[0].Bytes, 0)
	at := bytes.Index(body, []byte{api.OpWindow << 1})
	for kind := range 9 {
		if kind == api.OpWindow {
			continue
		}
		b := bytes.Clone(body)
		b[at] = byte(kind << 1)
		o := api.Op{Kind: kind, Columns: kv()}
		if x, err := op.New(o, 0, 32); err == nil {
			if err := x.Load([]api.Piece{piece(2, b)}); plain.Told(err) != api.ErrWire {
				t.Errorf("kind %d: %v", kind, err)
			}
		}
	}
}

func TestO5GoesOn(t *testing.T) {
	for _, c := range []struct {
		o    api.Op
		want string
	}{
		{counted(tumble(10)), "9: 1 2; 9: 5 1; 19: 1 2; "},
		{counted(slide(10, 5)), "4: 1 1; 9: 1 2; 9: 5 1; 14: 1 2; 14: 5 1; 19: 1 2; 24: 1 1; "},
		{counted(session(3)), "5: 1 1; 9: 5 1; 12: 1 2; 17: 1 1; "},
		{counted(whole()), "1099511627776: 1 4; 1099511627776: 5 1; "},
	} {
		x := fed(t, some(t, c.o, 0, 32), row(8, 1, 0), row(3, 1, 0), row(7, 5, 0))
		x = moved(t, c.o, x)
		fed(t, x, row(15, 1, 0))
		x = moved(t, c.o, moved(t, c.o, x))
		fed(t, x, row(10, 1, 0))
		told(t, x, api.Forever, c.want)
	}
}

// TestO5NotAgain: windows that were given out are not given out again, though
// their rows are kept for others, and the time is Never.
func TestO5NotAgain(t *testing.T) {
	o := summed(slide(10, 4))
	x := fed(t, some(t, o, 0, 32), row(9, 0, 1), row(1, 0, 10))
	told(t, x, 2, "1: 10; ")
	x = moved(t, o, x)
	told(t, x, 5, "")
	told(t, x, 6, "5: 10; ")
	x = moved(t, o, x)
	told(t, x, 0, "")
	told(t, x, 9, "")
	told(t, x, 10, "9: 11; ")
	x = moved(t, o, moved(t, o, x))
	told(t, x, api.Forever, "13: 1; 17: 1; ")
	if l := moved(t, o, x).Save(); len(l) != 0 {
		t.Errorf("Save of nothing: %v", l)
	}
	for _, w := range []api.Windows{tumble(10), session(10), slide(10, 10)} {
		o := counted(w)
		x := fed(t, some(t, o, 0, 32), row(0, 1, 0), row(20, 1, 0))
		told(t, x, 10, "9: 1 1; ")
		x = moved(t, o, x)
		told(t, x, 20, "")
		told(t, x, api.Forever, "29: 1 1; ")
	}
}

func TestO5TimeIsNever(t *testing.T) {
	o := counted(tumble(10))
	x := fed(t, some(t, o, 0, 32), row(25, 1, 0))
	told(t, x, 20, "")
	saved := x.Save()
	load(t, x, saved) // into itself
	told(t, x, api.Never, "")
	takes(t, x, 0, row(3, 1, 0), "")
	told(t, x, 5, "")
	refused(t, x, 0, row(4, 1, 0), api.ErrState)
	told(t, x, 29, "9: 1 1; ")
	told(t, x, 30, "29: 1 1; ")
	load(t, x, saved) // what it had then is there again
	told(t, x, api.Forever, "29: 1 1; ")
}

// TestO5NothingElse: what was kept ahead of Load is gone.
func TestO5NothingElse(t *testing.T) {
	o := joined(tumble(10), true)
	saved := fed(t, some(t, o, 0, 32), row(5, 1, 2)).Save()
	x := fed(t, some(t, o, 0, 32), row(5, 1, 3), row(6, 7, 3))
	takes(t, x, 1, row(5, 1, 4), "")
	load(t, x, saved)
	told(t, x, api.Forever, "9: 1 2 null null; ")
	x = fed(t, some(t, o, 0, 32), row(5, 1, 3))
	load(t, x, nil)
	told(t, x, api.Forever, "")
	x = fed(t, some(t, o, 5, 32), row(5, 7, 3))
	load(t, x, saved) // of another's groups
	told(t, x, api.Forever, "")
}

func TestO5Spread(t *testing.T) {
	o := joined(session(5), true)
	x := fed(t, some(t, o, 0, 14), row(3, inGroup2, 1), row(4, inGroup13, 2), row(6, inGroup2, 3))
	takes(t, x, 1, row(7, inGroup2, 8), "")
	y := fed(t, some(t, o, 14, 32), row(3, inGroup14, 4), row(30, inGroup20, 5))
	told(t, y, 8, "7: 5 4 null null; ")
	all := slices.Concat(y.Save(), x.Save())
	want := map[int]string{2: "11: 1 1 1 8; 11: 1 3 1 8; ", 13: "8: 2 2 null null; ", 20: "34: 7 5 null null; "}
	for group := range 32 {
		told(t, load(t, some(t, o, group, group+1), all), api.Forever, want[group])
	}
	told(t, load(t, some(t, o, 0, 32), all), api.Forever, want[13]+want[2]+want[20])
	told(t, load(t, some(t, o, 13, 13), all), api.Forever, "")
}

func piece(group int, body []byte) api.Piece {
	b, _ := wire.Seal(body)
	return api.Piece{Group: group, Bytes: b}
}

// turned has a byte with another lowest bit.
func turned(p api.Piece, at int) api.Piece {
	p.Bytes = bytes.Clone(p.Bytes)
	p.Bytes[at] ^= 1
	return p
}

// looks tells what an operator gives out in the end, and changes nothing.
func looks(t *testing.T, o api.Op, x *op.Operator) string {
	t.Helper()
	l, err := moved(t, o, x).Time(api.Forever)
	return fmt.Sprint(shown(l), err)
}

func TestO5LoadWhichPieces(t *testing.T) {
	o := counted(tumble(10))
	saved := fed(t, some(t, o, 0, 32), row(3, inGroup2, 0), row(3, inGroup14, 0), row(3, inGroup20, 0)).Save()
	other, good, more := saved[0], saved[1], saved[2]
	none, short := api.Piece{Group: 32, Bytes: good.Bytes}, api.Piece{Group: 14, Bytes: good.Bytes[:len(good.Bytes)-1]}
	bad := turned(good, 9)
	as := func(group int, p api.Piece) api.Piece { return api.Piece{Group: group, Bytes: p.Bytes} }
	for i, c := range []struct {
		l    []api.Piece
		want api.Errno
	}{
		{[]api.Piece{none}, api.ErrRange}, {[]api.Piece{as(-1, good)}, api.ErrRange}, {[]api.Piece{as(math.MaxInt, good)}, api.ErrRange}, {[]api.Piece{as(math.MinInt, good)}, api.ErrRange}, {[]api.Piece{none, none}, api.ErrRange}, {[]api.Piece{more, good, none}, api.ErrRange},
		{[]api.Piece{good, good}, api.ErrState}, {[]api.Piece{other, other}, api.ErrState}, {[]api.Piece{good, more, bad}, api.ErrState}, {[]api.Piece{good, good, none}, api.ErrState},
		{[]api.Piece{bad}, api.ErrSum}, {[]api.Piece{bad, bad}, api.ErrSum}, {[]api.Piece{bad, none}, api.ErrSum}, {[]api.Piece{more, bad}, api.ErrSum}, {[]api.Piece{turned(good, 5)}, api.ErrSum},
		{[]api.Piece{short}, api.ErrWire}, {[]api.Piece{short, none}, api.ErrWire}, {[]api.Piece{as(14, api.Piece{})}, api.ErrWire}, {[]api.Piece{{Group: 14, Bytes: append(bytes.Clone(good.Bytes), 0)}}, api.ErrWire}, {[]api.Piece{{Group: 14, Bytes: slices.Concat(good.Bytes, good.Bytes)}}, api.ErrWire}, {[]api.Piece{turned(good, 0)}, api.ErrWire},
		{[]api.Piece{as(15, good)}, api.ErrWire}, {[]api.Piece{as(14, more)}, api.ErrWire}, {[]api.Piece{as(14, other)}, api.ErrWire}, {[]api.Piece{more, as(14, other)}, api.ErrWire},
	} {
		x := fed(t, some(t, o, 8, 32), row(44, inGroup20, 0))
		told(t, x, 40, "")
		before := looks(t, o, x)
		if err := x.Load(c.l); plain.Told(err) != c.want {
			t.Errorf("list %d: %v, want %v", i, err, c.want)
		}
		refused(t, x, 0, row(39, inGroup20, 0), api.ErrState)
		if after := looks(t, o, x); after != before {
			t.Errorf("list %d: it had %s, and has %s", i, before, after)
		}
	}
	x := load(t, some(t, o, 8, 32), []api.Piece{more, as(3, bad), as(7, short), good, as(0, api.Piece{})})
	told(t, x, api.Forever, "9: 5 1; 9: 7 1; ")
}

// TestO5PiecesOfOthers: what operators of another api.Op have saved is none
// of its own.
func TestO5PiecesOfOthers(t *testing.T) {
	var all []api.Op
	change := func(o api.Op, how func(o *api.Op)) {
		how(&o)
		all = append(all, o)
	}
	for _, o := range []api.Op{counted(tumble(10)), joined(tumble(10), false)} {
		change(o, func(o *api.Op) {})
		change(o, func(o *api.Op) { o.Windows = tumble(11) })
		change(o, func(o *api.Op) { o.Windows = session(10) })
		change(o, func(o *api.Op) { o.Windows = slide(10, 10) })
		change(o, func(o *api.Op) { o.Windows = slide(10, 5) })
		change(o, func(o *api.Op) { o.Windows = whole() })
		change(o, func(o *api.Op) { o.Columns = cols("k w", 1, 1) })
		change(o, func(o *api.Op) { o.Columns = cols("k v", 1, 3) })
		change(o, func(o *api.Op) { o.Columns = cols("k", 1) })
		change(o, func(o *api.Op) { o.Columns = cols("k v w", 1, 1, 1) })
	}
	one, two := counted(tumble(10)), joined(tumble(10), false)
	change(one, func(o *api.Op) { o.Keys = []int{1} })
	change(one, func(o *api.Op) { o.Keys = []int{1, 0} })
	change(one, func(o *api.Op) { o.Keys = nil })
	change(one, func(o *api.Op) { o.Names = []string{"m"} })
	change(one, func(o *api.Op) { o.Aggs = []api.Agg{{Kind: api.Sum, At: 1}} })
	change(one, func(o *api.Op) { o.Aggs = []api.Agg{{Kind: api.Max, At: 1}} })
	change(one, func(o *api.Op) { o.Aggs = []api.Agg{{Kind: api.Max, At: 0}} })
	change(one, func(o *api.Op) { o.Aggs, o.Names = nil, nil })
	change(two, func(o *api.Op) { o.Outer = true })
	change(two, func(o *api.Op) { o.Right = cols("x z", 1, 1) })
	change(two, func(o *api.Op) { o.Right = cols("x y", 1, 2) })
	change(two, func(o *api.Op) { o.Keys, o.Others = []int{0, 1}, []int{0, 1} })
	change(two, func(o *api.Op) { o.Others = []int{1} })
	change(two, func(o *api.Op) { o.Keys, o.Others = nil, nil })
	for i, a := range all {
		x := some(t, a, 0, 32)
		r := mixed(3, 1, 1, 1)
		r.Values = r.Values[:len(a.Columns)]
		if i == 7 || i == 17 {
			r.Values[1] = api.Value{}
		}
		fed(t, x, r)
		saved := x.Save()
		if len(saved) != 1 {
			t.Fatalf("%+v: %v", a, saved)
		}
		for k, b := range all {
			want := api.ErrWire
			if i == k {
				want = api.OK
			}
			if err := some(t, b, 0, 32).Load(saved); plain.Told(err) != want {
				t.Errorf("%+v loads from %+v: %v", b, a, err)
			}
		}
	}
}

// TestO5PiecesOfStores: they are sealed, and of the group, but no operator's.
func TestO5PiecesOfStores(t *testing.T) {
	s, _ := state.New(0, 32)
	s.Put(row(0, inGroup14).Values, api.Window{From: 0, To: 10}, wire.PutRows(nil, []api.Row{row(3, inGroup14, 1)}))
	for _, l := range [][]api.Piece{s.Save(), {piece(14, nil)}, {piece(14, []byte{0})}, {piece(14, []byte{2})}, {piece(14, bytes.Repeat([]byte{0}, 100))}} {
		for _, o := range oneOfEach() {
			if err := some(t, o, 0, 32).Load(l); plain.Told(err) != api.ErrWire {
				t.Errorf("Load(%x): %v", l, err)
			}
		}
	}
}

// bodyOf gives what stands ahead of the rows in what an operator saves, and
// the rows.
func bodyOf(t *testing.T, o api.Op, r api.Row) (ahead, rows []byte) {
	t.Helper()
	saved := fed(t, some(t, o, 0, 32), r).Save()
	body, _, err := wire.Open(saved[0].Bytes, 0)
	if err != nil {
		t.Fatal(err)
	}
	at := bytes.LastIndex(body, []byte{2, 0, 0}) // one row, of the first input, no window given out
	return body[:at], body[at:]
}

func TestO5WrongRows(t *testing.T) {
	o := joined(slide(10, 5), false)
	ahead, one := bodyOf(t, o, row(7, inGroup14, 3))
	row7 := one[3:]
	if !bytes.Equal(row7, []byte{14, 4, 1, 10, 1, 6}) {
		t.Fatalf("%x", one)
	}
	with := func(count int, rest ...any) []byte {
		b := wire.PutInt(bytes.Clone(ahead), int64(count))
		for _, x := range rest {
			switch v := x.(type) {
			case int:
				b = wire.PutInt(b, int64(v))
			case []byte:
				b = append(b, v...)
			}
		}
		return b
	}
	for i, body := range [][]byte{
		with(1, 0, 0, row7), with(1, 1, 0, row7), with(1, 0, 1, row7), with(2, 0, 0, row7, 0, 0, row7), with(2, 0, 0, row7, 0, 1, row7), with(2, 0, 1, row7, 1, 0, row7), with(1, 0, 0, []byte{14, 4, 1, 10, 0}),
	} {
		if err := some(t, o, 0, 32).Load([]api.Piece{piece(14, body)}); err != nil {
			t.Errorf("body %d: %v", i, err)
		}
	}
	for i, body := range [][]byte{
		with(0), with(1), with(-1), with(1, 0), with(1, 0, 0), with(2, 0, 0, row7), with(1, 0, 0, row7, 0), with(1, 0, 0, row7, 0, 0, row7), with(math.MaxInt, 0, 0, row7),
		with(1, 2, 0, row7), with(1, -1, 0, row7), with(1, math.MinInt, 0, row7), // no input
		with(1, 0, 2, row7), with(1, 0, -1, row7), with(1, 0, math.MaxInt, row7), with(1, 0, math.MinInt, row7), // no window is left
		with(2, 0, 1, row7, 0, 0, row7), with(2, 1, 0, row7, 0, 0, row7), with(2, 0, 0, row7, 0, 0, []byte{12, 4, 1, 10, 1, 6}), with(2, 0, 0, row7, 0, 0, []byte{14, 4, 1, 10, 1, 4}), // not in order
		with(1, 0, 0, []byte{1, 4, 1, 10, 1, 6}), with(1, 0, 0, api.Forever, []byte{4, 1, 10, 1, 6}), with(1, 0, 0, []byte{14, 4, 1, 10, 2, 0}), with(1, 0, 0, []byte{14, 4, 1, 10, 9, 0}), with(1, 0, 0, []byte{14, 2, 1, 10}), with(1, 0, 0, []byte{14, 6, 1, 10, 1, 6, 0}), // none of the columns
		with(1, 0, 0, []byte{14, 4, 1, 2, 1, 6}), with(1, 0, 0, []byte{14, 4, 1, 4, 1, 6}), // of another group
		with(1, 0, 0, []byte{14, 4, 1, 138, 0, 1, 6}), with(1, 0, 0, row7[:5]), with(1, []byte{128, 0}, 0, row7), // no numbers
		ahead, ahead[:len(ahead)-1], one, append([]byte{0}, with(1, 0, 0, row7)...),
	} {
		x := some(t, o, 0, 32)
		takes(t, x, 1, row(3, 1, 1), "")
		before := x.Save()
		if err := x.Load([]api.Piece{piece(14, body)}); plain.Told(err) != api.ErrWire {
			t.Errorf("body %d: %v", i, err)
		}
		if !samePieces(x.Save(), before) {
			t.Errorf("body %d changes something", i)
		}
	}
}

// TestO5WrongNumbers: not even where rows have no values.
func TestO5WrongNumbers(t *testing.T) {
	o := api.Op{Kind: api.OpWindow, Windows: tumble(10)}
	ahead, one := bodyOf(t, o, api.Row{Time: 3})
	group := value.Group(nil)
	for rest, want := range map[string]api.Errno{
		string(one): api.OK, "\x02\x00\x00\x06\x00": api.OK, "\x04\x00\x00\x06\x00\x00\x00\x06\x00": api.OK,
		"\x02\x80\x00": api.ErrWire, "\x02\x00\x80\x00": api.ErrWire, "\x02\x00\x00\x80\x00": api.ErrWire, "\x02\x00\x00\x06\x80\x00": api.ErrWire, "\x02\x00\x00\x06": api.ErrWire, "\x02\x00\x00\x06\x02\x00": api.ErrWire,
	} {
		if err := some(t, o, 0, 32).Load([]api.Piece{piece(group, append(bytes.Clone(ahead), rest...))}); plain.Told(err) != want {
			t.Errorf("rows %x: %v, want %v", rest, err, want)
		}
	}
}

func TestP2PiecesAreCopied(t *testing.T) {
	o := api.Op{Kind: api.OpWindow, Columns: abc(), Keys: []int{2}, Windows: slide(10, 5), Aggs: []api.Agg{{Kind: api.Max, At: 2}}, Names: []string{"m"}}
	x := fed(t, some(t, o, 0, 32), mixed(3, 1, true, "w"), mixed(3, 1, true, "v"))
	saved := x.Save()
	copied := copyPieces(saved)
	y := load(t, some(t, o, 0, 32), saved)
	if !samePieces(saved, copied) {
		t.Error("Load writes into what it is given")
	}
	for i := range saved {
		b := saved[i].Bytes
		clear(b[:cap(b)])
		if i == 0 && !samePieces(saved[1:], copied[1:]) {
			t.Error("two pieces share memory")
		}
	}
	if !samePieces(x.Save(), copied) || !samePieces(y.Save(), copied) {
		t.Error("pieces are shared")
	}
	const want = "4: 'v' 'v'; 4: 'w' 'w'; 9: 'v' 'v'; 9: 'w' 'w'; "
	told(t, x, api.Forever, want)
	told(t, y, api.Forever, want)
}

func TestO5ManyRows(t *testing.T) {
	o := joined(whole(), false)
	x := some(t, o, 0, 32)
	for i := range int64(20000) {
		takes(t, x, int(i%2), row(7, i%300, i), "")
	}
	y := moved(t, o, x)
	if !samePieces(y.Save(), x.Save()) {
		t.Error("Save of what was loaded")
	}
	if l := x.Save(); len(l) != 32 {
		t.Errorf("%d groups", len(l))
	}
}

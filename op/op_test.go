package op_test

import (
	"fmt"
	"math"
	"slices"
	"strings"
	"testing"

	"streamwright/api"
	"streamwright/op"
	"streamwright/plain"
	"streamwright/value"
)

func TestO3Where(t *testing.T) {
	x := some(t, where("a > 2 and b"), 0, 0)
	takes(t, x, 0, mixed(4, 3, true, "w"), "4: 3 true 'w'; ")
	takes(t, x, 0, mixed(4, 2, true, "w"), "")
	takes(t, x, 0, mixed(4, 3, nil, "w"), "") // it comes to Null
	takes(t, x, 0, mixed(0, 3, true, nil), "0: 3 true null; ")
	told(t, x, api.Forever, "")
	x = some(t, where("true"), 0, 32)
	takes(t, x, 0, mixed(api.MaxTime, nil, nil, nil), "1099511627776: null null null; ")
}

func TestO3Map(t *testing.T) {
	x := some(t, mapped("a * 2", "c ++ '!'", "7", "not b"), 0, 0)
	takes(t, x, 0, mixed(9, 3, true, "w"), "9: 6 'w!' 7 false; ")
	takes(t, x, 0, mixed(8, nil, nil, nil), "8: null null 7 null; ")
	told(t, x, 5, "")
	told(t, x, api.Forever, "")
	takes(t, some(t, mapped(), 0, 32), 0, mixed(9, 3, true, "w"), "9:; ")
}

func TestO3UnionAndSink(t *testing.T) {
	for _, kind := range []int{api.OpUnion, api.OpSink} {
		x := some(t, api.Op{Kind: kind, Columns: abc()}, 0, 0)
		takes(t, x, 0, mixed(9, 3, true, "w"), "9: 3 true 'w'; ")
		takes(t, x, 0, mixed(9, 3, true, "w"), "9: 3 true 'w'; ")
		told(t, x, 9, "")
		takes(t, x, 0, mixed(9, nil, false, ""), "9: null false ''; ")
		told(t, x, api.Forever, "")
		takes(t, some(t, api.Op{Kind: kind}, 0, 0), 0, api.Row{Time: 3}, "3:; ")
	}
}

func TestO3NoSuchInput(t *testing.T) {
	for _, o := range []api.Op{counted(whole()), {Kind: api.OpUnion, Columns: kv()}, {Kind: api.OpSink, Columns: kv()}, {Kind: api.OpWhere, Columns: kv(), Exprs: []string{"true"}}, {Kind: api.OpMap, Columns: kv()}} {
		for _, input := range []int{1, -1, 2, math.MinInt, math.MaxInt} {
			refused(t, some(t, o, 0, 32), input, row(1, 1, 1), api.ErrRange)
		}
	}
	x := some(t, joined(whole(), false), 0, 32)
	for _, input := range []int{2, -1, math.MinInt, math.MaxInt} {
		refused(t, x, input, row(1, 1, 1), api.ErrRange)
	}
	takes(t, x, 0, row(1, 1, 1), "")
	takes(t, x, 1, row(1, 1, 1), "")
}

// wrongRows are none of the columns abc.
func wrongRows() []api.Row {
	return []api.Row{
		mixed(-1, 3, true, "w"), mixed(api.Forever, 3, true, "w"), mixed(math.MinInt64, 3, true, "w"), mixed(math.MaxInt64, 3, true, "w"),
		mixed(1), mixed(1, 3, true), mixed(1, 3, true, "w", nil), mixed(1, 3, true, "w", 3, 3, 3, 3, 3, 3),
		mixed(1, true, true, "w"), mixed(1, 3, 1, "w"), mixed(1, 3, true, 4), mixed(1, "w", true, 3),
		mixed(1, 3, true, strings.Repeat("w", 61)), {Time: 1, Values: []api.Value{{Kind: 9}, {}, {}}}, {Time: 1, Values: []api.Value{{Int: 1}, {}, {}}}, {Time: 1, Values: []api.Value{{}, {Kind: api.Bool, Int: 2}, {}}},
	}
}

func TestO3RowsThatDoNotFit(t *testing.T) {
	by := api.Op{Kind: api.OpWindow, Columns: abc(), Keys: []int{2}, Windows: whole()}
	join := api.Op{Kind: api.OpJoin, Columns: abc(), Right: cols("d e f", 1, 2, 3), Keys: []int{2}, Others: []int{2}, Windows: whole()}
	for _, o := range []api.Op{where("true"), mapped("7"), {Kind: api.OpUnion, Columns: abc()}, {Kind: api.OpSink, Columns: abc()}, by, join} {
		x := some(t, o, 0, 32)
		for _, r := range wrongRows() {
			refused(t, x, 0, r, api.ErrRange)
			if o.Kind == api.OpJoin {
				refused(t, x, 1, r, api.ErrRange)
			}
		}
		told(t, x, api.Forever, "")
		for _, r := range wrongRows() {
			refused(t, x, 0, r, api.ErrRange) // ahead of being late
		}
		refused(t, x, 0, mixed(1, 3, true, "w"), api.ErrState)
	}
	// Each input has columns of its own.
	x := some(t, api.Op{Kind: api.OpJoin, Columns: abc(), Right: kv(), Windows: whole()}, 0, 32)
	refused(t, x, 0, row(1, 1, 1), api.ErrRange)
	refused(t, x, 1, mixed(1, 3, true, "w"), api.ErrRange)
	takes(t, x, 1, row(1, 1, 1), "")
	takes(t, x, 0, mixed(1, 3, true, "w"), "")
}

func TestO3Groups(t *testing.T) {
	x := some(t, counted(tumble(10)), 13, 14)
	takes(t, x, 0, row(1, inGroup13, 5), "")
	refused(t, x, 0, row(1, inGroup14, 5), api.ErrRange)
	refused(t, x, 0, row(1, inGroup2, 5), api.ErrRange)
	told(t, x, 9, "")
	refused(t, x, 0, row(1, inGroup2, 5), api.ErrRange) // ahead of being late
	refused(t, x, 0, row(1, inGroup13, 5), api.ErrState)
	told(t, x, 10, "9: 2 1; ")
	refused(t, some(t, counted(tumble(10)), 14, 32), 0, row(1, inGroup13, 5), api.ErrRange)
	refused(t, some(t, counted(tumble(10)), 13, 13), 0, row(1, inGroup13, 5), api.ErrRange)
	// The key of a second input are its own columns.
	o := joined(tumble(10), false)
	o.Others = []int{1}
	x = some(t, o, 13, 15)
	takes(t, x, 1, row(1, inGroup2, inGroup14), "")
	refused(t, x, 1, row(1, inGroup14, inGroup2), api.ErrRange)
	takes(t, x, 0, row(1, inGroup14, inGroup2), "")
	refused(t, x, 0, row(1, inGroup2, inGroup14), api.ErrRange)
	told(t, x, api.Forever, "9: 5 1 1 5; ")
	// Of others the groups do not matter.
	takes(t, some(t, api.Op{Kind: api.OpSink, Columns: kv()}, 3, 3), 0, row(1, inGroup14, 5), "1: 5 5; ")
}

func TestO3Late(t *testing.T) {
	for _, o := range []api.Op{where("b"), mapped("7"), {Kind: api.OpUnion, Columns: abc()}, {Kind: api.OpSink, Columns: abc()}, {Kind: api.OpWindow, Columns: abc(), Windows: whole()}} {
		x := some(t, o, 0, 32)
		told(t, x, 0, "")
		if _, err := x.Row(0, mixed(0, 3, true, "w")); err != nil {
			t.Errorf("a row at the time that was told: %v", err)
		}
		told(t, x, 8, "")
		refused(t, x, 0, mixed(7, 3, true, "w"), api.ErrState)
		if _, err := x.Row(0, mixed(8, 3, true, "w")); err != nil {
			t.Errorf("a row at the time that was told: %v", err)
		}
		told(t, x, api.MaxTime, "")
		if _, err := x.Row(0, mixed(api.MaxTime, 3, true, "w")); err != nil {
			t.Errorf("a row at the time that was told: %v", err)
		}
	}
}

func TestO4TimesThatAreNone(t *testing.T) {
	for _, o := range oneOfEach() {
		x := some(t, o, 0, 32)
		bad := func(time int64) {
			t.Helper()
			if l, err := x.Time(time); plain.Told(err) != api.ErrRange || l != nil {
				t.Errorf("Time(%d): %v, %v", time, l, err)
			}
		}
		for _, time := range []int64{-2, math.MinInt64, api.Forever + 1, math.MaxInt64} {
			bad(time)
		}
		told(t, x, api.Never, "")
		told(t, x, api.Never, "")
		told(t, x, 5, "")
		told(t, x, 5, "")
		bad(4)
		bad(api.Never)
		bad(api.Forever + 1)
		told(t, x, api.Forever, "")
		told(t, x, api.Forever, "")
		bad(api.MaxTime)
	}
}

// TestP1NothingIsChangedByFaults: what is refused leaves no trace.
func TestP1NothingIsChangedByFaults(t *testing.T) {
	x := some(t, counted(session(5)), 0, 20)
	takes(t, x, 0, row(3, 1, 1), "")
	told(t, x, 2, "")
	refused(t, x, 0, row(1, 1, 1), api.ErrState)
	refused(t, x, 1, row(4, 1, 1), api.ErrRange)
	refused(t, x, 0, row(4, 1), api.ErrRange)
	refused(t, x, 0, row(4, inGroup20, 1), api.ErrRange)
	for _, time := range []int64{1, api.Forever + 1} {
		if _, err := x.Time(time); plain.Told(err) != api.ErrRange {
			t.Errorf("Time(%d): %v", time, err)
		}
	}
	takes(t, x, 0, row(2, 2, 1), "")
	if x.Load([]api.Piece{{Group: 40}}) == nil {
		t.Error("Load of no group")
	}
	refused(t, x, 0, row(1, 1, 1), api.ErrState) // the time is what it was
	told(t, x, api.Forever, "6: 2 1; 7: 1 1; ")
}

func TestO4Tumble(t *testing.T) {
	x := fed(t, some(t, counted(tumble(10)), 0, 32), row(9, 1, 0), row(10, 1, 0), row(0, 2, 0), row(10, 2, 0), row(19, 1, 0), row(5, 1, 0))
	told(t, x, 9, "")
	fed(t, x, row(9, 1, 0))
	told(t, x, 10, "9: 1 3; 9: 2 1; ")
	told(t, x, 10, "")
	fed(t, x, row(10, 2, 0), row(35, 1, 0))
	told(t, x, 25, "19: 1 2; 19: 2 2; ")
	told(t, x, 39, "")
	told(t, x, api.Forever, "39: 1 1; ")
	told(t, x, api.Forever, "")
}

func TestO4Slide(t *testing.T) {
	x := fed(t, some(t, summed(slide(10, 4)), 0, 32), row(9, 0, 1), row(1, 0, 10), row(12, 0, 100))
	told(t, x, 1, "")
	told(t, x, 2, "1: 10; ") // -8 to 2
	told(t, x, 9, "5: 10; ") // -4 to 6
	fed(t, x, row(9, 0, 1000))
	told(t, x, 14, "9: 1011; 13: 1101; ")
	told(t, x, 17, "")
	told(t, x, 18, "17: 1101; ")
	told(t, x, api.Forever, "21: 100; ")
}

// TestO4SlideWithRests: the windows are not whole steps long.
func TestO4SlideWithRests(t *testing.T) {
	x := fed(t, some(t, summed(slide(5, 3)), 0, 32), row(4, 0, 1), row(5, 0, 10))
	told(t, x, api.Forever, "4: 1; 7: 11; ")
	x = fed(t, some(t, counted(slide(129, 2)), 0, 32), row(1000, 1, 0))
	l, err := x.Time(api.Forever)
	if err != nil || len(l) != 65 && len(l) != 64 || l[0].Time < 1000 || l[0].Time > 1001 {
		t.Errorf("%d windows, %v, %v", len(l), l, err)
	}
}

func TestO4Session(t *testing.T) {
	x := fed(t, some(t, summed(session(5)), 0, 32), row(1, 0, 1), row(5, 0, 2), row(10, 0, 4))
	told(t, x, 9, "")
	told(t, x, 10, "9: 3; ")
	told(t, x, api.Forever, "14: 4; ")
	// A row between two sessions makes one of them, one at an end does not.
	x = fed(t, some(t, summed(session(5)), 0, 32), row(1, 0, 1), row(9, 0, 2), row(5, 0, 4), row(14, 0, 8), row(20, 0, 16))
	told(t, x, 14, "13: 7; ")
	told(t, x, api.Forever, "18: 8; 24: 16; ")
	// A session goes on as long as rows come, even behind a time at which it would have ended.
	x = fed(t, some(t, summed(session(5)), 0, 32), row(1, 0, 1))
	told(t, x, 5, "")
	fed(t, x, row(5, 0, 2))
	told(t, x, 6, "")
	told(t, x, 8, "")
	fed(t, x, row(8, 0, 4), row(20, 0, 8))
	told(t, x, 12, "")
	told(t, x, 13, "12: 7; ")
	fed(t, x, row(15, 0, 16), row(16, 0, 32))
	told(t, x, 20, "")
	told(t, x, 21, "")
	told(t, x, 25, "24: 56; ")
}

func TestO4SessionsAreAKeys(t *testing.T) {
	x := fed(t, some(t, counted(session(5)), 0, 32), row(1, 1, 0), row(4, 2, 0), row(7, 1, 0), row(8, 2, 0))
	told(t, x, api.Forever, "5: 1 1; 11: 1 1; 12: 2 2; ")
}

func TestO4Whole(t *testing.T) {
	x := fed(t, some(t, counted(whole()), 0, 32), row(0, 1, 0), row(api.MaxTime, 1, 0), row(7, 2, 0))
	told(t, x, api.MaxTime, "")
	told(t, x, api.Forever, "1099511627776: 1 2; 1099511627776: 2 1; ")
	told(t, x, api.Forever, "")
}

// TestO4TheEndOfTime: what ends just at Forever comes out, what ends behind
// it does not.
func TestO4TheEndOfTime(t *testing.T) {
	x := fed(t, some(t, summed(session(1)), 0, 32), row(api.MaxTime, 0, 1), row(api.MaxTime-1, 0, 2))
	told(t, x, api.MaxTime, "1099511627775: 2; ")
	told(t, x, api.Forever, "1099511627776: 1; ")
	for _, w := range []api.Windows{session(2), tumble(10), slide(20, 20)} {
		x := fed(t, some(t, summed(w), 0, 32), row(api.MaxTime, 0, 1))
		told(t, x, api.Forever, "")
		if l := x.Save(); len(l) != 1 {
			t.Errorf("%+v: what did not come out is not kept: %v", w, l)
		}
	}
}

// TestO4Order: by the windows' ends, their beginnings, then the keys.
func TestO4Order(t *testing.T) {
	o := api.Op{Kind: api.OpWindow, Columns: abc(), Keys: []int{2, 0}, Windows: session(5), Aggs: []api.Agg{{Kind: api.Count, At: -1}}, Names: []string{"n"}}
	x := fed(t, some(t, o, 0, 32),
		mixed(7, 2, true, "b"), mixed(7, 10, true, "a"), mixed(7, 2, true, "a"), mixed(7, nil, true, "b"), mixed(7, 1, true, nil), mixed(7, -3, true, "ab"), mixed(7, 2, true, ""),
		mixed(6, 9, true, "z"), mixed(5, 1, true, "zz"), mixed(7, 1, true, "zz"), mixed(8, 1, true, ""))
	told(t, x, api.Forever, "10: 'z' 9 1; 11: 'zz' 1 2; 11: null 1 1; 11: '' 2 1; 11: 'a' 2 1; 11: 'a' 10 1; 11: 'ab' -3 1; 11: 'b' null 1; 11: 'b' 2 1; 12: '' 1 1; ")
}

func TestO4Aggs(t *testing.T) {
	o := api.Op{Kind: api.OpWindow, Columns: kv(), Windows: tumble(100), Names: strings.Fields("n s lo hi f l d"), Aggs: []api.Agg{{Kind: api.Count, At: -1}, {Kind: api.Sum, At: 1}, {Kind: api.Min, At: 1}, {Kind: api.Max, At: 1}, {Kind: api.First, At: 1}, {Kind: api.Last, At: 0}, {Kind: api.Distinct, At: 1}}}
	x := fed(t, some(t, o, 0, 32), row(4, 7, 5), row(3, 8, 9), row(3, 6, 6), row(8, 4, 5), row(9, 3, 2), row(9, 2, 7), mixed(50, nil, nil), mixed(2, 1, nil))
	told(t, x, 100, "99: 8 34 2 9 6 3 5; ")
	fed(t, x, mixed(150, nil, nil))
	told(t, x, 200, "199: 1 null null null null null 0; ")
	o.Aggs, o.Names, o.Keys = nil, nil, []int{1, 0}
	x = fed(t, some(t, o, 0, 32), row(4, 7, 5), row(3, 7, 5), row(4, 5, 7))
	told(t, x, 100, "99: 5 7; 99: 7 5; ")
	o.Keys = nil
	x = fed(t, some(t, o, 0, 32), row(4, 7, 5), row(3, 7, 5))
	told(t, x, 100, "99:; ")
	told(t, x, 200, "")
}

func TestO4Join(t *testing.T) {
	for _, outer := range []bool{false, true} {
		x := some(t, joined(tumble(10), outer), 0, 32)
		for _, r := range []api.Row{row(9, 5, 1), row(3, 5, 2), row(3, 5, 1), row(3, 6, 7), row(12, 5, 3), row(3, 5, 2)} {
			takes(t, x, 0, r, "")
		}
		for _, r := range []api.Row{row(2, 5, 8), row(1, 5, 9), row(1, 4, 4), row(19, 5, 6), row(2, 5, 8)} {
			takes(t, x, 1, r, "")
		}
		want := ""
		for _, first := range []string{"5 1", "5 2", "5 2", "5 1"} {
			for _, second := range []string{"5 9", "5 8", "5 8"} {
				want += "9: " + first + " " + second + "; "
			}
		}
		if outer {
			want += "9: 6 7 null null; "
		}
		told(t, x, 10, want)
		told(t, x, 20, "19: 5 3 5 6; ")
		takes(t, x, 1, row(25, 5, 6), "")
		told(t, x, 30, "")
		takes(t, x, 0, row(35, 5, 6), "")
		if outer {
			told(t, x, api.Forever, "39: 5 6 null null; ")
		} else {
			told(t, x, api.Forever, "")
		}
		if l := x.Save(); len(l) != 0 {
			t.Errorf("rows that no window waits for are kept: %v", l)
		}
	}
}

func TestO4JoinByMany(t *testing.T) {
	o := api.Op{Kind: api.OpJoin, Columns: abc(), Right: cols("s i", 3, 1), Keys: []int{0, 2}, Others: []int{1, 0}, Windows: whole(), Outer: true}
	x := fed(t, some(t, o, 0, 32), mixed(1, 3, true, "w"), mixed(1, 3, nil, "x"), mixed(1, nil, false, "w"), mixed(1, nil, true, nil))
	takes(t, x, 1, mixed(5, "w", 3), "")
	takes(t, x, 1, mixed(6, "w", nil), "")
	takes(t, x, 1, mixed(7, nil, nil), "")
	takes(t, x, 1, mixed(8, "y", 3), "")
	const end = "1099511627776: "
	told(t, x, api.Forever, end+"null true null null null; "+end+"null false 'w' 'w' null; "+end+"3 true 'w' 'w' 3; "+end+"3 null 'x' null null; ")
	// Without keys all meet.
	o = joined(whole(), false)
	o.Keys, o.Others = nil, nil
	x = fed(t, some(t, o, 0, 32), row(1, 2, 3), row(1, 4, 5))
	takes(t, x, 1, row(1, 6, 7), "")
	told(t, x, api.Forever, end+"2 3 6 7; "+end+"4 5 6 7; ")
}

// TestO4JoinedSessions: the rows of both inputs make the sessions of a key.
func TestO4JoinedSessions(t *testing.T) {
	x := fed(t, some(t, joined(session(5), true), 0, 32), row(1, 7, 1), row(9, 7, 2), row(20, 7, 3))
	takes(t, x, 1, row(5, 7, 4), "")
	takes(t, x, 1, row(30, 7, 5), "")
	told(t, x, 6, "")
	told(t, x, 14, "13: 7 1 7 4; 13: 7 2 7 4; ")
	told(t, x, api.Forever, "24: 7 3 null null; ")
}

func TestO4JoinedSlides(t *testing.T) {
	x := fed(t, some(t, joined(slide(10, 5), false), 0, 32), row(7, 1, 1))
	takes(t, x, 1, row(3, 1, 2), "")
	takes(t, x, 1, row(8, 1, 3), "")
	takes(t, x, 1, row(12, 1, 4), "")
	told(t, x, api.Forever, "9: 1 1 1 2; 9: 1 1 1 3; 14: 1 1 1 3; 14: 1 1 1 4; ")
}

// TestP2RowsAreCopied: neither what comes in nor what comes out is shared.
func TestP2RowsAreCopied(t *testing.T) {
	for _, o := range []api.Op{where("true"), {Kind: api.OpUnion, Columns: abc()}, {Kind: api.OpSink, Columns: abc()}, mapped("a", "b", "c")} {
		r := mixed(3, 4, true, "w")
		l, err := some(t, o, 0, 32).Row(0, r)
		if err != nil || len(l) != 1 {
			t.Fatal(err)
		}
		clear(l[0].Values)
		if shown([]api.Row{r}) != "3: 4 true 'w'; " {
			t.Errorf("%+v: what comes out is what came in", o)
		}
	}
}

// apart checks that no two rows share memory.
func apart(t *testing.T, l []api.Row) {
	t.Helper()
	for i := range l {
		before := shown(l[i+1:])
		values := l[i].Values
		clear(values[:cap(values)])
		if after := shown(l[i+1:]); after != before {
			t.Errorf("two rows share memory: %s, and then %s", before, after)
		}
	}
}

func TestP2KeptRowsAreCopied(t *testing.T) {
	x := some(t, joined(slide(10, 5), true), 0, 32)
	first, second := row(7, 1, 2), row(6, 1, 9)
	takes(t, x, 0, first, "")
	takes(t, x, 1, second, "")
	takes(t, x, 0, row(13, 1, 3), "")
	clear(first.Values)
	clear(second.Values)
	l, err := x.Time(10)
	if err != nil || shown(l) != "9: 1 2 1 9; " {
		t.Errorf("%s, %v", shown(l), err)
	}
	apart(t, l)
	l, err = x.Time(api.Forever)
	if err != nil || shown(l) != "14: 1 2 1 9; 14: 1 3 1 9; 19: 1 3 null null; " {
		t.Errorf("%s, %v", shown(l), err)
	}
	apart(t, l)
}

func TestP2KeysAreCopied(t *testing.T) {
	o := api.Op{Kind: api.OpWindow, Columns: cols("k v w", 1, 1, 1), Keys: []int{0, 1, 2}, Windows: slide(10, 5)}
	for _, more := range []string{"", "1"} {
		x := fed(t, some(t, o, 0, 32), row(7, 1, 2, 4))
		l, err := x.Time(10)
		if err != nil || shown(l) != strings.TrimRight("9: 1 2 4 "+more, " ")+"; " {
			t.Errorf("%s, %v", shown(l), err)
		}
		apart(t, l)
		fed(t, x, row(11, 1, 2, 4))
		l, err = x.Time(api.Forever)
		if err != nil || len(l) != 2 {
			t.Errorf("%s, %v", shown(l), err)
		}
		apart(t, l)
		o.Aggs, o.Names = []api.Agg{{Kind: api.Count, At: -1}}, []string{"n"}
	}
}

func TestP2OpIsCopied(t *testing.T) {
	o := api.Op{Kind: api.OpWindow, Columns: kv(), Keys: []int{0}, Windows: tumble(10), Aggs: []api.Agg{{Kind: api.Sum, At: 1}}, Names: []string{"s"}}
	j := joined(tumble(10), true)
	m := mapped("a", "b")
	x, y, z := some(t, o, 0, 32), some(t, j, 0, 32), some(t, m, 0, 32)
	clear(o.Columns)
	o.Keys[0], o.Aggs[0], o.Names[0] = 1, api.Agg{Kind: api.Count, At: -1}, "q"
	clear(j.Columns)
	clear(j.Right)
	j.Keys[0], j.Others[0] = 1, 1
	m.Exprs[0], m.Names[0], m.Columns[0].Name = "7", "q", "z"
	takes(t, x, 0, row(3, 1, 2), "")
	told(t, x, 10, "9: 1 2; ")
	takes(t, y, 0, row(3, 1, 2), "")
	takes(t, y, 1, row(3, 1, 4), "")
	told(t, y, 10, "9: 1 2 1 4; ")
	takes(t, z, 0, mixed(3, 4, true, "w"), "3: 4 true; ")
	o = counted(tumble(10))
	x = some(t, o, 0, 32)
	o.Names[0] = "q"
	load(t, x, fed(t, some(t, counted(tumble(10)), 0, 32), row(3, 1, 2)).Save())
}

// TestO4ManyRows: neither many rows of a key nor many times that are told
// make it slow.
func TestO4ManyRows(t *testing.T) {
	const many = 20000
	for _, w := range []api.Windows{whole(), session(1 << 20), slide(1<<20, 1<<15)} {
		x := some(t, summed(w), 0, 32)
		for i := range int64(many) {
			takes(t, x, 0, row(i, 0, 1), "")
			if i%10 == 0 {
				told(t, x, i, "")
			}
		}
		l, err := x.Time(api.Forever)
		if err != nil || len(l) == 0 || !slices.ContainsFunc(l, func(r api.Row) bool { return r.Values[0] == value.Of(many) }) {
			t.Errorf("%+v: %v, %v", w, l, err)
		}
	}
}

func ExampleOperator() {
	x, _ := op.New(api.Op{
		Kind: api.OpWindow, Columns: []api.Column{{Name: "who", Kind: api.Text}}, Windows: api.Windows{Kind: api.Session, Size: 5},
		Aggs: []api.Agg{{Kind: api.Count, At: -1}}, Names: []string{"n"},
	}, 0, 32)
	for _, time := range []int64{1, 5, 10} {
		x.Row(0, api.Row{Time: time, Values: []api.Value{value.Words("a")}})
	}
	for _, time := range []int64{9, 10, api.Forever} {
		l, _ := x.Time(time)
		fmt.Println(l)
	}
	// Output:
	// []
	// [{9 [{1 2 }]}]
	// [{14 [{1 1 }]}]
}

package table_test

import (
	"fmt"
	"math"
	"math/rand"
	"slices"
	"strings"
	"testing"

	"streamwright/api"
	"streamwright/plain"
	"streamwright/table"
	"streamwright/value"
)

func tx(mark int, sink string, task int) table.Tx {
	return table.Tx{Mark: mark, Sink: sink, Task: task}
}

// rows gives one for each number: of that time, with it as its value.
func rows(l ...int64) []api.Row {
	var out []api.Row
	for _, n := range l {
		out = append(out, api.Row{Time: n, Values: []api.Value{value.Of(n)}})
	}
	return out
}

func prepare(t *testing.T, x *table.Table, a table.Tx, l []api.Row) {
	t.Helper()
	if err := x.Prepare(a, l); err != nil {
		t.Fatalf("Prepare(%v): %v", a, err)
	}
}

// shown writes rows: the time, the values.
func shown(l []api.Row) string {
	var b strings.Builder
	for _, r := range l {
		fmt.Fprintf(&b, "%d%v ", r.Time, r.Values)
	}
	return b.String()
}

// looks writes all that can be seen of a table, of the sinks s and r.
func looks(x *table.Table) string {
	return fmt.Sprint(x.Prepared(), " ", x.Waiting(), " s ", shown(x.Rows("s")), "r ", shown(x.Rows("r")))
}

func sees(t *testing.T, what string, x *table.Table, want string) {
	t.Helper()
	if got := looks(x); got != want {
		t.Errorf("%s: %q, want %q", what, got, want)
	}
}

func TestB1New(t *testing.T) {
	x := table.New()
	sees(t, "New", x, "[] 0 s r ")
	if x.Commit(table.Tx{}) || x.Abort(table.Tx{}) || len(x.Rows("")) != 0 {
		t.Error("something is in a new table")
	}
}

func TestB1Prepare(t *testing.T) {
	x := table.New()
	prepare(t, x, tx(1, "s", 0), rows(4, 2))
	prepare(t, x, tx(1, "s", 1), nil)
	prepare(t, x, tx(2, "s", 0), rows(4))
	prepare(t, x, tx(1, "r", 0), rows(1))
	const want = "[{1 r 0} {1 s 0} {1 s 1} {2 s 0}] 4 s r "
	sees(t, "Prepare", x, want)
	for _, a := range []table.Tx{tx(1, "s", 0), tx(1, "s", 1), tx(2, "s", 0), tx(1, "r", 0)} {
		for _, l := range [][]api.Row{nil, rows(4, 2), rows(9, 9, 9)} {
			if err := x.Prepare(a, l); plain.Told(err) != api.ErrState {
				t.Errorf("Prepare(%v) once more: %v", a, err)
			}
		}
	}
	sees(t, "Prepare once more", x, want)
}

func TestB1Commit(t *testing.T) {
	x := table.New()
	prepare(t, x, tx(2, "s", 0), rows(5, 3))
	prepare(t, x, tx(1, "s", 1), rows(4, 3))
	prepare(t, x, tx(1, "r", 1), rows(8))
	for _, a := range []table.Tx{tx(1, "s", 0), tx(2, "s", 1), tx(2, "r", 1), tx(-1, "s", 0), tx(1, "", 1)} {
		if x.Commit(a) {
			t.Errorf("Commit(%v), which is not prepared", a)
		}
	}
	sees(t, "Commit of others", x, "[{1 r 1} {1 s 1} {2 s 0}] 5 s r ")
	if !x.Commit(tx(2, "s", 0)) {
		t.Error("Commit")
	}
	sees(t, "Commit", x, "[{1 r 1} {1 s 1}] 3 s 3[{1 3 }] 5[{1 5 }] r ")
	if x.Commit(tx(2, "s", 0)) || x.Abort(tx(2, "s", 0)) {
		t.Error("Commit or Abort of what was committed")
	}
	if !x.Commit(tx(1, "s", 1)) {
		t.Error("Commit of another one")
	}
	sees(t, "both", x, "[{1 r 1}] 1 s 3[{1 3 }] 3[{1 3 }] 4[{1 4 }] 5[{1 5 }] r ")
}

// TestB1Twice: what is prepared twice is seen twice.
func TestB1Twice(t *testing.T) {
	x, a := table.New(), tx(1, "s", 0)
	for range 2 {
		prepare(t, x, a, rows(1, 2))
		if !x.Commit(a) || x.Commit(a) {
			t.Error("Commit")
		}
	}
	sees(t, "Commit twice", x, "[] 0 s 1[{1 1 }] 1[{1 1 }] 2[{1 2 }] 2[{1 2 }] r ")
}

func TestB1Abort(t *testing.T) {
	x := table.New()
	prepare(t, x, tx(1, "s", 0), rows(1))
	x.Commit(tx(1, "s", 0))
	prepare(t, x, tx(1, "s", 0), rows(2))
	prepare(t, x, tx(1, "s", 1), rows(3, 3))
	if x.Abort(tx(1, "r", 0)) || x.Abort(tx(2, "s", 0)) {
		t.Error("Abort of what is not prepared")
	}
	if !x.Abort(tx(1, "s", 0)) || x.Abort(tx(1, "s", 0)) || x.Commit(tx(1, "s", 0)) {
		t.Error("Abort")
	}
	sees(t, "Abort", x, "[{1 s 1}] 2 s 1[{1 1 }] r ")
	prepare(t, x, tx(1, "s", 0), rows(7))
	if x.Commit(tx(1, "s", 0)); shown(x.Rows("s")) != "1[{1 1 }] 7[{1 7 }] " {
		t.Error("what was aborted is seen:", shown(x.Rows("s")))
	}
}

// TestB1NoRows: a transaction without rows is one.
func TestB1NoRows(t *testing.T) {
	x := table.New()
	prepare(t, x, tx(0, "s", 0), []api.Row{})
	sees(t, "Prepare", x, "[{0 s 0}] 0 s r ")
	if !x.Commit(tx(0, "s", 0)) || x.Commit(tx(0, "s", 0)) {
		t.Error("Commit")
	}
	sees(t, "Commit", x, "[] 0 s r ")
}

func TestB1PreparedInOrder(t *testing.T) {
	want := []table.Tx{
		tx(math.MinInt, "z", 9), tx(-1, "", 0), tx(0, "", math.MinInt), tx(0, "", -1), tx(0, "", 0), tx(0, "", math.MaxInt),
		tx(2, "B", 7), tx(2, "a", 3), tx(2, "a", 10), tx(2, "a\x00", 0), tx(2, "ab", 0), tx(2, "b", 0), tx(2, "\xff", 0), tx(10, "a", 0), tx(math.MaxInt, "", 0),
	}
	rnd := rand.New(rand.NewSource(14))
	for range 20 {
		x := table.New()
		for _, i := range rnd.Perm(len(want)) {
			prepare(t, x, want[i], nil)
		}
		if got := x.Prepared(); !slices.Equal(got, want) {
			t.Fatalf("Prepared: %v, want %v", got, want)
		}
	}
}

func TestB1RowsInOrder(t *testing.T) {
	l := []api.Row{
		{Time: 1}, {Time: 1, Values: []api.Value{{}}}, {Time: 1, Values: []api.Value{{}, {}}}, {Time: 1, Values: []api.Value{value.Of(-2)}},
		{Time: 1, Values: []api.Value{value.Of(3)}}, {Time: 1, Values: []api.Value{value.Truth(false)}}, {Time: 1, Values: []api.Value{value.Words("a")}},
		{Time: 1, Values: []api.Value{value.Words("a")}}, {Time: 1, Values: []api.Value{value.Words("ab")}}, {Time: 2}, {Time: 10},
	}
	rnd := rand.New(rand.NewSource(15))
	for range 50 {
		x := table.New()
		for task, i := range rnd.Perm(len(l)) {
			prepare(t, x, tx(1, "s", task), l[i:i+1])
			x.Commit(tx(1, "s", task))
		}
		if got := x.Rows("s"); shown(got) != shown(l) {
			t.Fatalf("Rows: %s, want %s", shown(got), shown(l))
		}
	}
}

// TestB1Anything: no row is too wrong to be laid down, and to be seen.
func TestB1Anything(t *testing.T) {
	x, a := table.New(), tx(math.MinInt, strings.Repeat("\x00", 1000), math.MaxInt)
	prepare(t, x, a, []api.Row{{Time: math.MaxInt64, Values: make([]api.Value, 100)}, {Time: -5, Values: []api.Value{{Kind: 9, Int: 1, Text: "x"}}}})
	if x.Waiting() != 2 || !x.Commit(a) || len(x.Rows(a.Sink)) != 2 || x.Rows(a.Sink)[0].Time != -5 {
		t.Errorf("%d wait, %v", x.Waiting(), x.Rows(a.Sink))
	}
}

// scribble writes over rows and their values.
func scribble(l []api.Row) {
	for i := range l {
		for k := range l[i].Values {
			l[i].Values[k] = value.Of(99)
		}
		_ = append(l[i].Values, value.Of(98))
		l[i] = api.Row{Time: 97}
	}
	_ = append(l, api.Row{Time: 96})
}

func TestB1IsFresh(t *testing.T) {
	x, a := table.New(), tx(1, "s", 0)
	in := rows(5, 4)
	prepare(t, x, a, in)
	if shown(in) != shown(rows(5, 4)) {
		t.Errorf("of what was handed in %s is left", shown(in))
	}
	scribble(in)
	x.Prepared()[0].Sink = "z"
	sees(t, "prepared", x, "[{1 s 0}] 2 s r ")
	x.Commit(a)
	scribble(in)
	sees(t, "committed", x, "[] 0 s 4[{1 4 }] 5[{1 5 }] r ")
	one, other := x.Rows("s"), x.Rows("s")
	scribble(one)
	if shown(other) != shown(rows(4, 5)) {
		t.Error("two answers share memory:", shown(other))
	}
	scribble(other[:1:1])
	if shown(other[1:]) != shown(rows(5)) {
		t.Error("two rows share memory:", shown(other))
	}
	sees(t, "what was handed out is written over", x, "[] 0 s 4[{1 4 }] 5[{1 5 }] r ")
}

// laid is a transaction by the words of the chapter.
type laid struct {
	tx   table.Tx
	rows []api.Row
}

// list is a table by the words of the chapter.
type list struct {
	prepared []laid
	seen     []laid
}

func (l *list) place(a table.Tx) int {
	return slices.IndexFunc(l.prepared, func(one laid) bool { return one.tx == a })
}

func (l *list) rowsOf(sink string) []api.Row {
	var out []api.Row
	for _, one := range l.seen {
		if one.tx.Sink == sink {
			out = append(out, one.rows...)
		}
	}
	slices.SortFunc(out, value.CompareRows)
	return out
}

func (l *list) looks() string {
	prepared, waiting := []table.Tx{}, 0
	for _, one := range l.prepared {
		prepared = append(prepared, one.tx)
		waiting += len(one.rows)
	}
	slices.SortFunc(prepared, func(a, b table.Tx) int {
		if a.Mark != b.Mark {
			return a.Mark - b.Mark
		}
		if a.Sink != b.Sink {
			return strings.Compare(a.Sink, b.Sink)
		}
		return a.Task - b.Task
	})
	return fmt.Sprint(prepared, " ", waiting, " s ", shown(l.rowsOf("s")), "r ", shown(l.rowsOf("r")))
}

func TestB1AtRandom(t *testing.T) {
	rnd := rand.New(rand.NewSource(16))
	for range 200 {
		x, l := table.New(), &list{}
		for range 60 {
			a := tx(rnd.Intn(3), []string{"s", "r"}[rnd.Intn(2)], rnd.Intn(2))
			at := l.place(a)
			var ok bool
			switch rnd.Intn(4) {
			case 0:
				if ok = x.Commit(a); at >= 0 {
					l.seen = append(l.seen, l.prepared[at])
					l.prepared = slices.Delete(l.prepared, at, at+1)
				}
			case 1:
				if ok = x.Abort(a); at >= 0 {
					l.prepared = slices.Delete(l.prepared, at, at+1)
				}
			default:
				some := rows(rnd.Int63n(5), rnd.Int63n(5), rnd.Int63n(5))[rnd.Intn(4):]
				if ok = x.Prepare(a, some) != nil; at < 0 {
					l.prepared = append(l.prepared, laid{a, some})
				}
			}
			if got, want := looks(x), l.looks(); ok != (at >= 0) || got != want {
				t.Fatalf("%v: %v: %s, want %s", a, ok, got, want)
			}
		}
	}
}

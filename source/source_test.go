package source_test

import (
	"fmt"
	"math"
	"math/rand"
	"reflect"
	"slices"
	"strings"
	"testing"

	"streamwright/api"
	"streamwright/plain"
	"streamwright/source"
	"streamwright/value"
)

// reader makes one of rows with these times, each with its place as its value.
func reader(t *testing.T, bound int64, times ...int64) *source.Reader {
	t.Helper()
	r, err := source.New(rowsAt(times), bound)
	if err != nil || r == nil {
		t.Fatalf("New of %v, bound %d: %v", times, bound, err)
	}
	return r
}

func rowsAt(times []int64) []api.Row {
	var rows []api.Row
	for i, time := range times {
		rows = append(rows, api.Row{Time: time, Values: []api.Value{value.Of(int64(i))}})
	}
	return rows
}

// told writes what flows: rows by time and value.
func told(l []api.Elem) string {
	var s []string
	for _, e := range l {
		switch e.Kind {
		case api.ElemRow:
			s = append(s, fmt.Sprintf("row %d (%s)", e.Row.Time, value.Show(e.Row.Values[0])))
		case api.ElemTime:
			s = append(s, fmt.Sprintf("time %d", e.Time))
		default:
			s = append(s, fmt.Sprintf("%+v", e))
		}
	}
	return strings.Join(s, ", ")
}

// stands writes all that a reader tells of itself.
func stands(r *source.Reader) string {
	return fmt.Sprintf("at %d time %d late %d ended %v", r.At(), r.Time(), r.Late(), r.Ended())
}

func TestS1Elements(t *testing.T) {
	values := []api.Value{value.Words("a"), value.Of(-1), {}, value.Truth(true)}
	r, err := source.New([]api.Row{{Time: 7, Values: values}}, 2)
	if err != nil {
		t.Fatal(err)
	}
	row := api.Elem{Kind: 1, Row: api.Row{Time: 7, Values: values}}
	if got, want := r.Take(), []api.Elem{row, {Kind: 2, Time: 5}}; !reflect.DeepEqual(got, want) {
		t.Errorf("of a row flows %+v, want %+v", got, want)
	}
	if got, want := r.Take(), []api.Elem{{Kind: 2, Time: 1<<40 + 1}}; !reflect.DeepEqual(got, want) {
		t.Errorf("of the end flows %+v, want %+v", got, want)
	}
}

func TestS2New(t *testing.T) {
	for _, bound := range []int64{0, 1, 1 << 20} {
		for _, n := range []int{0, 1, 100} {
			if r, err := source.New(make([]api.Row, n), bound); err != nil || stands(r) != "at 0 time -1 late 0 ended false" {
				t.Errorf("New of %d rows, bound %d: %v", n, bound, err)
			}
		}
	}
	for _, row := range []api.Row{{Time: api.MaxTime}, {Values: make([]api.Value, 8)}, {Values: []api.Value{value.Words(strings.Repeat("w", 60))}}} {
		if _, err := source.New([]api.Row{row}, 0); err != nil {
			t.Errorf("New of %+v: %v", row, err)
		}
	}
}

func notMade(t *testing.T, what string, rows []api.Row, bound int64, want api.Errno) {
	t.Helper()
	if r, err := source.New(rows, bound); plain.Told(err) != want || r != nil {
		t.Errorf("New of %s: %v, %v, want %v", what, r, err, want)
	}
}

func TestS2NewOfWrongThings(t *testing.T) {
	bad := []api.Row{
		{Time: -1}, {Time: api.Forever}, {Time: math.MinInt64}, {Time: math.MaxInt64},
		{Values: make([]api.Value, 9)}, {Values: []api.Value{{Kind: 4}}}, {Values: []api.Value{{}, {Int: 1}}},
		{Values: []api.Value{{Kind: api.Bool, Int: 2}}}, {Values: []api.Value{value.Words(strings.Repeat("w", 61))}},
	}
	for _, row := range bad {
		notMade(t, fmt.Sprintf("the row %+v", row), []api.Row{row}, 0, api.ErrRange)
		notMade(t, fmt.Sprintf("a last row %+v", row), append(make([]api.Row, 99), row), 5, api.ErrRange)
		notMade(t, fmt.Sprintf("101 rows, the last one %+v", row), append(make([]api.Row, 100), row), 0, api.ErrFull)
	}
	for _, bound := range []int64{-1, 1<<20 + 1, math.MinInt64, math.MaxInt64} {
		notMade(t, fmt.Sprint("the bound ", bound), nil, bound, api.ErrRange)
		notMade(t, fmt.Sprint("101 rows, the bound ", bound), make([]api.Row, 101), bound, api.ErrFull)
	}
}

func TestS3Take(t *testing.T) {
	for _, c := range []struct {
		bound int64
		times []int64
		want  []string
	}{
		{5, []int64{20, 15, 14, 26}, []string{"row 20 (0), time 15", "row 15 (1)", "", "row 26 (3), time 21"}},
		{0, nil, nil},
		{0, []int64{0, 0, 1, 0, 1}, []string{"row 0 (0), time 0", "row 0 (1)", "row 1 (2), time 1", "", "row 1 (4)"}},
		{10, []int64{3, 9, 0, 10, 11, 0, 1}, []string{"row 3 (0)", "row 9 (1)", "row 0 (2)", "row 10 (3), time 0", "row 11 (4), time 1", "", "row 1 (6)"}},
		{1, []int64{api.MaxTime, api.MaxTime, api.MaxTime - 1, api.MaxTime - 2}, []string{fmt.Sprintf("row %d (0), time %d", api.MaxTime, api.MaxTime-1), fmt.Sprintf("row %d (1)", api.MaxTime), fmt.Sprintf("row %d (2)", api.MaxTime-1), ""}},
		{api.MaxBound, []int64{api.MaxBound - 1, api.MaxBound, 0}, []string{"row 1048575 (0)", "row 1048576 (1), time 0", "row 0 (2)"}},
	} {
		r := reader(t, c.bound, c.times...)
		for i, want := range append(c.want, "time 1099511627777", "", "") {
			if got := told(r.Take()); got != want {
				t.Errorf("times %v, bound %d: Take number %d gives %q, want %q", c.times, c.bound, i, got, want)
			}
		}
	}
}

func TestS3BehindTheEnd(t *testing.T) {
	r := reader(t, 0, 5)
	for range 2 {
		r.Take()
	}
	for range 3 {
		if got := r.Take(); len(got) != 0 || stands(r) != "at 2 time 1099511627777 late 0 ended true" {
			t.Errorf("behind the end: %+v, %s", got, stands(r))
		}
	}
}

// byTheWords is what S3 and S4 say of the first so many rows: what flows of the last of them, and how the reader stands then.
func byTheWords(times []int64, bound int64, so int) (flows, stood string) {
	last, late := int64(-1), 0
	for i := range so {
		flows = ""
		switch {
		case i == len(times):
			flows, last = "time 1099511627777", api.Forever
		case times[i] < last:
			late++
		default:
			flows = fmt.Sprintf("row %d (%d)", times[i], i)
			if less := times[i] - bound; less > last {
				flows, last = fmt.Sprintf("%s, time %d", flows, less), less
			}
		}
	}
	return flows, fmt.Sprintf("at %d time %d late %d ended %v", so, last, late, so == len(times)+1)
}

func someTimes(rnd *rand.Rand) []int64 {
	times := make([]int64, rnd.Intn(12))
	for i := range times {
		times[i] = rnd.Int63n(12) + int64(i)
	}
	return times
}

func TestS3AndS4AtRandom(t *testing.T) {
	rnd := rand.New(rand.NewSource(3))
	for range 3000 {
		times, bound := someTimes(rnd), rnd.Int63n(8)
		r := reader(t, bound, times...)
		for so := range len(times) + 2 {
			flows, stood := byTheWords(times, bound, so)
			if so > 0 {
				if got := told(r.Take()); got != flows {
					t.Fatalf("times %v, bound %d: row %d gives %q, want %q", times, bound, so, got, flows)
				}
			}
			if stands(r) != stood {
				t.Fatalf("times %v, bound %d, %d read: %s, want %s", times, bound, so, stands(r), stood)
			}
		}
	}
}

// TestS1TimesHold: behind a time no row with an earlier one comes, and no time that is not later.
func TestS1TimesHold(t *testing.T) {
	rnd := rand.New(rand.NewSource(4))
	for range 1000 {
		times := someTimes(rnd)
		r := reader(t, rnd.Int63n(8), times...)
		last := int64(api.Never)
		for !r.Ended() {
			for _, e := range r.Take() {
				if e.Kind == api.ElemRow && e.Row.Time < last || e.Kind == api.ElemTime && e.Time <= last {
					t.Fatalf("times %v: behind the time %d comes %+v", times, last, e)
				}
				if e.Kind == api.ElemTime {
					last = e.Time
				}
			}
		}
		if last != api.Forever {
			t.Fatalf("times %v: the last time is %d", times, last)
		}
	}
}

func TestS4Seek(t *testing.T) {
	rnd := rand.New(rand.NewSource(5))
	for range 300 {
		times, bound := someTimes(rnd), rnd.Int63n(8)
		r := reader(t, bound, times...)
		for range 20 {
			at := rnd.Intn(len(times) + 2)
			if err := r.Seek(at); err != nil {
				t.Fatalf("Seek(%d) of %d rows: %v", at, len(times), err)
			}
			for so := at; so <= len(times)+1; so++ {
				flows, stood := byTheWords(times, bound, so)
				if so > at {
					if got := told(r.Take()); got != flows {
						t.Fatalf("times %v, bound %d: row %d behind Seek(%d) gives %q, want %q", times, bound, so, at, got, flows)
					}
				}
				if stands(r) != stood {
					t.Fatalf("times %v, bound %d: %d read, Seek(%d): %s, want %s", times, bound, so, at, stands(r), stood)
				}
				if rnd.Intn(4) == 0 {
					break
				}
			}
		}
	}
}

func TestS4SeekNowhere(t *testing.T) {
	r := reader(t, 5, 20, 15, 14, 26)
	for range 3 {
		r.Take()
	}
	for _, at := range []int{-1, 6, 7, math.MinInt, math.MaxInt} {
		if err := r.Seek(at); plain.Told(err) != api.ErrRange || stands(r) != "at 3 time 15 late 1 ended false" {
			t.Errorf("Seek(%d): %v, and it stands %s", at, err, stands(r))
		}
	}
	if got := told(r.Take()); got != "row 26 (3), time 21" {
		t.Errorf("behind faults: %q", got)
	}
	empty := reader(t, 0)
	if plain.Told(empty.Seek(2)) != api.ErrRange || empty.Seek(1) != nil || !empty.Ended() || empty.Seek(0) != nil || empty.Ended() {
		t.Error("Seek of a reader without rows")
	}
}

func TestS2KeepsNothingOfTheCaller(t *testing.T) {
	values := []api.Value{value.Of(1), value.Of(2)}
	rows := []api.Row{{Time: 3, Values: values}, {Time: 4, Values: values[:1]}}
	before := []api.Row{{Time: 3, Values: slices.Clone(values)}, {Time: 4, Values: slices.Clone(values[:1])}}
	r, err := source.New(rows, 0)
	if err != nil {
		t.Fatal(err)
	}
	for range 2 {
		r.Take()
	}
	if !reflect.DeepEqual(rows, before) {
		t.Errorf("what was handed in was changed: %+v", rows)
	}
	values[0], rows[1].Time = value.Of(9), 0
	if err := r.Seek(0); err != nil {
		t.Fatal(err)
	}
	for i := range 2 {
		if got := r.Take(); !reflect.DeepEqual(got[0].Row, before[i]) {
			t.Errorf("row %d hangs on what was handed in: %+v", i, got)
		}
	}
}

func TestS3GivesFreshMemory(t *testing.T) {
	r := reader(t, 0, 3, 4)
	first := r.Take()
	first[0].Row.Values[0] = value.Of(77)
	_ = append(first[0].Row.Values[:0], value.Of(78), value.Of(79))
	first[1].Time = 99
	if got := told(r.Take()); got != "row 4 (1), time 4" {
		t.Errorf("the next one hangs on what came out: %q", got)
	}
	if err := r.Seek(0); err != nil || told(r.Take()) != "row 3 (0), time 3" {
		t.Error("what is read again hangs on what came out")
	}
}

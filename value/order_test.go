package value_test

import (
	"math"
	"math/rand"
	"slices"
	"testing"

	"streamwright/api"
	"streamwright/value"
)

// ascending has values in their order, valid or not, no two the same.
func ascending() []api.Value {
	return []api.Value{
		{Kind: math.MinInt64}, {Kind: -1, Int: 9, Text: "z"},
		{Int: -1}, {}, {Text: "a"}, {Int: 1},
		value.Of(math.MinInt64), value.Of(-5), value.Of(-1), value.Of(0), {Kind: api.Int, Text: "x"}, value.Of(2), value.Of(10), value.Of(math.MaxInt64),
		{Kind: api.Bool, Int: -3}, value.Truth(false), value.Truth(true), {Kind: api.Bool, Int: 2},
		value.Words(""), value.Words("\x00"), value.Words("A"), value.Words("a"), value.Words("a\x00"), value.Words("aa"), value.Words("b"), value.Words("\x7f"), value.Words("\x80"), value.Words("é"), value.Words("\xff"),
		{Kind: api.Text, Int: 1}, {Kind: 4},
	}
}

func sign(i, k int) int {
	switch {
	case i < k:
		return -1
	case i > k:
		return 1
	}
	return 0
}

func TestV2Compare(t *testing.T) {
	l := ascending()
	for i := range l {
		for k := range l {
			if got, want := value.Compare(l[i], l[k]), sign(i, k); got != want {
				t.Errorf("Compare(%+v, %+v): %d, want %d", l[i], l[k], got, want)
			}
		}
	}
}

// ascendingRows has rows in their order, valid or not, no two the same.
func ascendingRows() []api.Row {
	one, two := value.Of(1), value.Of(2)
	return []api.Row{
		{Time: math.MinInt64, Values: []api.Value{two}}, {Time: -1, Values: []api.Value{two, two}},
		{}, {Values: []api.Value{{}}}, {Values: []api.Value{{}, {}}}, {Values: make([]api.Value, 20)},
		{Values: []api.Value{one}},
		{Values: []api.Value{one, {}}}, {Values: []api.Value{one, one, two}}, {Values: []api.Value{one, two}},
		{Values: []api.Value{one, two, {}}}, {Values: []api.Value{two}},
		{Time: 3}, {Time: 3, Values: []api.Value{value.Words("b")}}, {Time: 12},
		{Time: math.MaxInt64, Values: []api.Value{{Kind: 9}}},
	}
}

func TestV2CompareRows(t *testing.T) {
	l := ascendingRows()
	for i := range l {
		for k := range l {
			if got, want := value.CompareRows(l[i], l[k]), sign(i, k); got != want {
				t.Errorf("CompareRows(%+v, %+v): %d, want %d", l[i], l[k], got, want)
			}
		}
	}
	if value.CompareRows(api.Row{}, api.Row{Values: []api.Value{}}) != 0 {
		t.Error("an empty list of values and nil are not the same")
	}
}

func sameRow(a, b api.Row) bool { return a.Time == b.Time && slices.Equal(a.Values, b.Values) }

func copyRows(l []api.Row) []api.Row {
	out := slices.Clone(l)
	for i := range out {
		out[i].Values = slices.Clone(out[i].Values)
	}
	return out
}

func TestV2Sorted(t *testing.T) {
	var want []api.Row
	for _, r := range ascendingRows() {
		want = append(want, r, r)
	}
	source := rand.New(rand.NewSource(1))
	for range 50 {
		in := copyRows(want)
		source.Shuffle(len(in), func(i, k int) { in[i], in[k] = in[k], in[i] })
		before := copyRows(in)
		if got := value.Sorted(in); !slices.EqualFunc(got, want, sameRow) {
			t.Fatalf("Sorted: %+v, want %+v", got, want)
		}
		if !slices.EqualFunc(in, before, sameRow) {
			t.Fatal("Sorted changed what was handed in")
		}
	}
	if len(value.Sorted(nil)) != 0 || len(value.Sorted([]api.Row{})) != 0 {
		t.Error("Sorted of nothing is not nothing")
	}
}

func TestV2SortedIsFresh(t *testing.T) {
	shared := []api.Value{value.Of(1), value.Of(2)}
	in := []api.Row{{Time: 1, Values: shared}, {Time: 1, Values: shared[:1]}, {Time: 1, Values: shared}}
	got := value.Sorted(in)
	for i := range got {
		got[i].Values = append(got[i].Values[:0], value.Of(int64(100+i)))
	}
	if shared[0] != value.Of(1) || in[0].Time != 1 || len(in[1].Values) != 1 {
		t.Error("what comes out shares memory with what was handed in")
	}
	for i := range got {
		if got[i].Values[0] != value.Of(int64(100+i)) {
			t.Error("two rows that come out share memory")
		}
	}
}

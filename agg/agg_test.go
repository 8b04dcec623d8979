package agg_test

import (
	"fmt"
	"math"
	"math/rand"
	"slices"
	"strings"
	"testing"

	"streamwright/agg"
	"streamwright/api"
	"streamwright/plain"
	"streamwright/value"
)

// list makes values with their times, by turns a time and a value as Show writes it.
func list(t *testing.T, words string) []api.Timed {
	t.Helper()
	var l []api.Timed
	for _, pair := range strings.Fields(words) {
		time, text, _ := strings.Cut(pair, ":")
		v, err := value.Read(text)
		at, timeErr := value.Read(time)
		if err != nil || timeErr != nil {
			t.Fatalf("%q is no value with its time", pair)
		}
		l = append(l, api.Timed{Time: at.Int, Value: v})
	}
	return l
}

// examples has lists, and what they come to in each way, Count first.
func examples() [][]string {
	return [][]string{
		{"", "0", "null", "null", "null", "null", "null", "0"},
		{"1:null", "1", "null", "null", "null", "null", "null", "0"},
		{"4:1 7:2 7:0", "3", "3", "0", "2", "1", "2", "3"},
		{"0:3 0:3 0:null", "3", "6", "3", "3", "3", "3", "1"},
		{"1:null 2:5 3:null", "3", "5", "5", "5", "5", "5", "1"},
		{"1:0", "1", "0", "0", "0", "0", "0", "1"},
		{"1:5 1:-5", "2", "0", "-5", "5", "-5", "5", "2"},
		{"9:'b' 9:'a' 9:'ab'", "3", "null", "'a'", "'b'", "'a'", "'b'", "3"},
		{"1:true 2:false 3:true", "3", "null", "false", "true", "true", "true", "2"},
		{"3:'' 3:true 3:7 3:null", "4", "7", "7", "''", "7", "''", "3"},
		{"1:0 2:false 3:'' 4:'0'", "4", "0", "0", "'0'", "0", "'0'", "4"},
		{"-5:1 -9:2 -7:3", "3", "6", "1", "3", "2", "1", "3"},
		{"9223372036854775807:1 -9223372036854775808:2 0:3", "3", "6", "1", "3", "2", "1", "3"},
		{"0:9223372036854775807 0:1", "2", "-9223372036854775808", "1", "9223372036854775807", "1", "9223372036854775807", "2"},
		{"5:-9223372036854775808 4:-9223372036854775808 3:1", "3", "1", "-9223372036854775808", "1", "1", "-9223372036854775808", "2"},
		{"5:3 5:1 5:2 8:3 8:9 8:4", "6", "22", "1", "9", "1", "9", "5"},
	}
}

func TestA1Valid(t *testing.T) {
	for kind := -20; kind < 20; kind++ {
		if agg.Valid(kind) != (kind >= 1 && kind <= 7) {
			t.Errorf("Valid(%d): %v", kind, agg.Valid(kind))
		}
	}
	if agg.Valid(math.MinInt) || agg.Valid(math.MaxInt) {
		t.Error("there is no such way")
	}
}

func TestA1Fold(t *testing.T) {
	for _, c := range examples() {
		l := list(t, c[0])
		before := slices.Clone(l)
		for kind := 1; kind <= 7; kind++ {
			if got, err := agg.Fold(kind, l); err != nil || value.Show(got) != c[kind] {
				t.Errorf("Fold(%d, %s): %s, %v, want %s", kind, c[0], value.Show(got), err, c[kind])
			}
		}
		if !slices.Equal(l, before) {
			t.Errorf("Fold changed what was handed in: %v", l)
		}
	}
}

func TestA2Split(t *testing.T) {
	for _, c := range examples() {
		l := list(t, c[0])
		before := slices.Clone(l)
		for kind := 1; kind <= 7; kind++ {
			for cut := range len(l) + 1 {
				if got, err := agg.Split(kind, l[:cut], l[cut:]); err != nil || value.Show(got) != c[kind] {
					t.Errorf("Split(%d, %s, cut at %d): %s, %v, want %s", kind, c[0], cut, value.Show(got), err, c[kind])
				}
			}
		}
		if !slices.Equal(l, before) {
			t.Errorf("Split changed what was handed in: %v", l)
		}
	}
}

// byTheWords is what A1 says, told by a list in order.
func byTheWords(kind int, l []api.Timed) api.Value {
	if kind == api.Count {
		return value.Of(int64(len(l)))
	}
	var left []api.Timed
	var total int64
	ints, different := 0, map[string]int{}
	for _, one := range l {
		if one.Value != (api.Value{}) {
			left = append(left, one)
			different[value.Show(one.Value)]++
		}
		if one.Value.Kind == api.Int {
			ints, total = ints+1, total+one.Value.Int
		}
	}
	switch {
	case kind == api.Distinct:
		return value.Of(int64(len(different)))
	case kind == api.Sum && ints > 0:
		return value.Of(total)
	case kind == api.Sum || len(left) == 0:
		return api.Value{}
	}
	slices.SortFunc(left, func(a, b api.Timed) int {
		if kind >= api.First && a.Time < b.Time {
			return -1
		}
		if kind >= api.First && a.Time > b.Time {
			return 1
		}
		return value.Compare(a.Value, b.Value)
	})
	if kind == api.Min || kind == api.First {
		return left[0].Value
	}
	return left[len(left)-1].Value
}

func someValue(rnd *rand.Rand) api.Value {
	edges := []int64{0, 1, -1, 2, 63, 64, -65, math.MaxInt64, math.MinInt64}
	texts := []string{"", "a", "b", "ab", "\x00", "\xff", strings.Repeat("w", 60)}
	switch rnd.Intn(5) {
	case 0:
		return value.Truth(rnd.Intn(2) == 0)
	case 1:
		return value.Words(texts[rnd.Intn(len(texts))])
	case 2:
		return api.Value{}
	}
	return value.Of(edges[rnd.Intn(len(edges))])
}

func someList(rnd *rand.Rand) []api.Timed {
	times := []int64{0, 1, 2, 3, -1, -2, api.MaxTime, api.Forever, math.MinInt64, math.MaxInt64}
	l := make([]api.Timed, rnd.Intn(8))
	for i := range l {
		l[i] = api.Timed{Time: times[rnd.Intn(len(times))], Value: someValue(rnd)}
	}
	return l
}

func TestA1AndA2AtRandom(t *testing.T) {
	rnd := rand.New(rand.NewSource(7))
	for range 20000 {
		l, m := someList(rnd), someList(rnd)
		both := slices.Concat(l, m)
		for kind := 1; kind <= 7; kind++ {
			want := byTheWords(kind, both)
			if got, err := agg.Fold(kind, both); err != nil || got != want {
				t.Fatalf("Fold(%d, %+v): %+v, %v, want %+v", kind, both, got, err, want)
			}
			if got, err := agg.Split(kind, l, m); err != nil || got != want {
				t.Fatalf("Split(%d, %+v, %+v): %+v, %v, want %+v", kind, l, m, got, err, want)
			}
		}
	}
}

// TestA1TheOrderOfTheListDoesNotMatter: what a list comes to is the same however its values stand.
func TestA1TheOrderOfTheListDoesNotMatter(t *testing.T) {
	rnd := rand.New(rand.NewSource(8))
	for range 2000 {
		l := someList(rnd)
		for kind := 1; kind <= 7; kind++ {
			want, _ := agg.Fold(kind, l)
			mixed := slices.Clone(l)
			rnd.Shuffle(len(mixed), func(i, k int) { mixed[i], mixed[k] = mixed[k], mixed[i] })
			if got, err := agg.Fold(kind, mixed); err != nil || got != want {
				t.Fatalf("Fold(%d, %+v): %+v, %v, want %+v", kind, mixed, got, err, want)
			}
		}
	}
}

func refused(t *testing.T, kind int, l, m []api.Timed) {
	t.Helper()
	if v, err := agg.Fold(kind, slices.Concat(l, m)); plain.Told(err) != api.ErrRange || v != (api.Value{}) {
		t.Errorf("Fold(%d, %+v): %+v, %v, want ErrRange", kind, slices.Concat(l, m), v, err)
	}
	if v, err := agg.Split(kind, l, m); plain.Told(err) != api.ErrRange || v != (api.Value{}) {
		t.Errorf("Split(%d, %+v, %+v): %+v, %v, want ErrRange", kind, l, m, v, err)
	}
}

func TestA1AndA2OfWrongThings(t *testing.T) {
	good := []api.Timed{{Time: 1, Value: value.Of(1)}, {Time: 2}}
	for _, kind := range []int{0, 8, -1, math.MinInt, math.MaxInt} {
		refused(t, kind, nil, nil)
		refused(t, kind, good, good)
	}
	for _, v := range []api.Value{{Kind: 4}, {Kind: -1}, {Int: 1}, {Text: "x"}, {Kind: api.Int, Text: "x"}, {Kind: api.Bool, Int: 2}, {Kind: api.Text, Int: 1}, value.Words(strings.Repeat("w", 61))} {
		bad := []api.Timed{{Time: 1, Value: v}}
		for kind := 1; kind <= 7; kind++ {
			refused(t, kind, bad, nil)
			refused(t, kind, nil, bad)
			refused(t, kind, good, slices.Concat(good, bad))
			refused(t, kind, slices.Concat(good, bad), good)
		}
	}
}

func TestA1LongLists(t *testing.T) {
	const n = 100000
	var l []api.Timed
	for i := range n {
		l = append(l, api.Timed{Time: int64(i), Value: value.Of(int64(i))})
	}
	for kind, want := range []int64{1: n, 2: n * (n - 1) / 2, 3: 0, 4: n - 1, 5: 0, 6: n - 1, 7: n} {
		if kind == 0 {
			continue
		}
		if got, err := agg.Split(kind, l[:n*2/3], l[n/3:]); kind > api.Sum && (err != nil || got != value.Of(want)) {
			t.Errorf("Split(%d) of lists that overlap: %s, %v, want %d", kind, value.Show(got), err, want)
		}
		if got, err := agg.Fold(kind, l); err != nil || got != value.Of(want) {
			t.Errorf("Fold(%d) of %d values: %s, %v, want %d", kind, n, value.Show(got), err, want)
		}
	}
}

func ExampleFold() {
	l := []api.Timed{{Time: 4, Value: value.Of(1)}, {Time: 7, Value: value.Of(2)}, {Time: 7, Value: value.Of(0)}}
	last, _ := agg.Fold(api.Last, l)
	first, _ := agg.Fold(api.First, l)
	fmt.Println(value.Show(last), value.Show(first))
	// Output: 2 1
}

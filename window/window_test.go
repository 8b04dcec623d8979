package window_test

import (
	"cmp"
	"fmt"
	"math"
	"math/rand"
	"slices"
	"testing"

	"streamwright/api"
	"streamwright/plain"
	"streamwright/window"
)

func tumble(size int64) api.Windows      { return api.Windows{Kind: 1, Size: size} }
func slide(size, step int64) api.Windows { return api.Windows{Kind: 2, Size: size, Step: step} }
func session(size int64) api.Windows     { return api.Windows{Kind: 3, Size: size} }
func whole() api.Windows                 { return api.Windows{Kind: 4} }

// validOnes stand at the edges of what may be.
func validOnes() []api.Windows {
	return []api.Windows{
		tumble(1), tumble(10), tumble(1 << 20), session(1), session(7), session(1 << 20), whole(),
		slide(1, 1), slide(10, 4), slide(10, 10), slide(64, 1), slide(129, 2), slide(194, 3), slide(1<<20, 1<<20), slide(1<<20, 16132), slide(1<<20, 1<<20-1),
	}
}

func invalidOnes() []api.Windows {
	l := []api.Windows{
		slide(10, 0), slide(10, -1), slide(10, 11), slide(65, 1), slide(130, 2), slide(195, 3), slide(1<<20, 16131), slide(1<<20, 1), slide(10, math.MinInt64), slide(10, math.MaxInt64), slide(0, 0), slide(-5, -5), slide(math.MinInt64, -1), slide(math.MaxInt64, math.MaxInt64), slide(1<<20+1, 1<<20),
		{Kind: 4, Size: 1}, {Kind: 4, Step: 1}, {Kind: 4, Size: -1}, {Kind: 4, Step: -1}, {Kind: 4, Size: 4, Step: 2},
	}
	for _, kind := range []int{api.Tumble, api.Session} {
		for _, size := range []int64{0, -1, 1<<20 + 1, math.MinInt64, math.MaxInt64} {
			l = append(l, api.Windows{Kind: kind, Size: size})
		}
		l = append(l, api.Windows{Kind: kind, Size: 5, Step: 1}, api.Windows{Kind: kind, Size: 5, Step: 5}, api.Windows{Kind: kind, Size: 5, Step: -1})
	}
	for _, kind := range []int{0, 5, -1, math.MinInt, math.MaxInt} {
		l = append(l, api.Windows{Kind: kind}, api.Windows{Kind: kind, Size: 5}, api.Windows{Kind: kind, Size: 5, Step: 5})
	}
	return l
}

func TestT1Valid(t *testing.T) {
	for _, w := range validOnes() {
		if !window.Valid(w) {
			t.Errorf("%+v are not valid", w)
		}
	}
	for _, w := range invalidOnes() {
		if window.Valid(w) {
			t.Errorf("%+v are valid", w)
		}
	}
}

func TestT2Assign(t *testing.T) {
	const most = api.MaxTime
	for _, c := range []struct {
		w    api.Windows
		t    int64
		want string
	}{
		{tumble(10), 25, "[{20 30}]"}, {tumble(10), 30, "[{30 40}]"}, {tumble(10), 29, "[{20 30}]"}, {tumble(10), 0, "[{0 10}]"}, {tumble(1), 7, "[{7 8}]"},
		{slide(10, 4), 9, "[{0 10} {4 14} {8 18}]"}, {slide(10, 4), 1, "[{-8 2} {-4 6} {0 10}]"}, {slide(10, 4), 10, "[{4 14} {8 18}]"}, {slide(10, 4), 0, "[{-8 2} {-4 6} {0 10}]"}, {slide(10, 4), 2, "[{-4 6} {0 10}]"},
		{slide(10, 10), 25, "[{20 30}]"}, {slide(3, 1), 0, "[{-2 1} {-1 2} {0 3}]"},
		{session(7), 5, "[{5 12}]"}, {session(1), 0, "[{0 1}]"}, {session(1 << 20), most, fmt.Sprint("[{", most, " ", most+1<<20, "}]")},
		{whole(), 0, "[{0 1099511627777}]"}, {whole(), most, "[{0 1099511627777}]"},
		{tumble(1 << 20), most, fmt.Sprint("[{", most, " ", most+1<<20, "}]")}, {tumble(1 << 20), most - 1, fmt.Sprint("[{", most-1<<20, " ", most, "}]")},
	} {
		got, err := window.Assign(c.w, c.t)
		if err != nil || fmt.Sprint(got) != c.want {
			t.Errorf("Assign(%+v, %d): %v, %v, want %s", c.w, c.t, got, err, c.want)
		}
	}
}

// stepsAround are all windows of a size from multiples of a step that have a time, looked for one by one.
func stepsAround(size, step, t int64) []api.Window {
	var l []api.Window
	for k := (t-size)/step - 2; k <= t/step+2; k++ {
		if one := (api.Window{From: k * step, To: k*step + size}); one.From <= t && t < one.To {
			l = append(l, one)
		}
	}
	return l
}

func TestT2AllSteps(t *testing.T) {
	near := func(w api.Windows, from, to int64) {
		step := w.Step
		if w.Kind == api.Tumble {
			step = w.Size
		}
		for time := from; time <= to; time++ {
			got, err := window.Assign(w, time)
			if want := stepsAround(w.Size, step, time); err != nil || !slices.Equal(got, want) {
				t.Fatalf("Assign(%+v, %d): %v, %v, want %v", w, time, got, err, want)
			}
		}
	}
	for size := int64(1); size <= 24; size++ {
		near(tumble(size), 0, 60)
		for step := int64(1); step <= size; step++ {
			near(slide(size, step), 0, 60)
		}
	}
	for _, w := range validOnes() {
		if w.Kind == api.Tumble || w.Kind == api.Slide {
			near(w, 0, 200)
			near(w, 1<<20-100, 1<<20+100)
			near(w, api.MaxTime-200, api.MaxTime)
		}
	}
	if l, err := window.Assign(slide(129, 2), 128); err != nil || len(l) != 65 {
		t.Errorf("the most windows that a time can be in: %d, %v", len(l), err)
	}
}

func notAssigned(t *testing.T, w api.Windows, time int64) {
	t.Helper()
	if l, err := window.Assign(w, time); plain.Told(err) != api.ErrRange || len(l) != 0 {
		t.Errorf("Assign(%+v, %d): %v, %v, want ErrRange", w, time, l, err)
	}
}

func TestT2AssignOfWrongThings(t *testing.T) {
	for _, w := range invalidOnes() {
		for _, time := range []int64{0, 5, api.MaxTime, -1} {
			notAssigned(t, w, time)
		}
	}
	for _, w := range validOnes() {
		for _, time := range []int64{-1, api.Forever, math.MinInt64, math.MaxInt64} {
			notAssigned(t, w, time)
		}
		for _, time := range []int64{0, api.MaxTime} {
			if l, err := window.Assign(w, time); err != nil || len(l) == 0 {
				t.Errorf("Assign(%+v, %d): %v, %v", w, time, l, err)
			}
		}
	}
}

// windows are all with bounds out of a few numbers, also those that have no time.
func windows() []api.Window {
	bounds := []int64{math.MinInt64, -1 << 20, -3, -1, 0, 1, 2, 3, 9, api.Forever, math.MaxInt64 - 1, math.MaxInt64}
	var l []api.Window
	for _, from := range bounds {
		for _, to := range bounds {
			l = append(l, api.Window{From: from, To: to})
		}
	}
	return l
}

func TestT3Meet(t *testing.T) {
	for _, c := range []struct {
		a, b api.Window
		want bool
	}{
		{api.Window{From: 1, To: 3}, api.Window{From: 3, To: 5}, false}, {api.Window{From: 1, To: 3}, api.Window{From: 2, To: 3}, true},
		{api.Window{From: 1, To: 9}, api.Window{From: 3, To: 5}, true}, {api.Window{From: 1, To: 2}, api.Window{From: 1, To: 2}, true},
		{api.Window{From: 1, To: 2}, api.Window{From: 8, To: 9}, false}, {api.Window{From: math.MinInt64, To: 0}, api.Window{From: -1, To: math.MaxInt64}, true},
		{api.Window{From: 4, To: 4}, api.Window{From: 1, To: 9}, true}, {api.Window{From: 4, To: 4}, api.Window{From: 4, To: 4}, false}, {api.Window{From: 4, To: 4}, api.Window{From: 4, To: 9}, false},
		{api.Window{From: 6, To: 2}, api.Window{From: 1, To: 9}, true}, {api.Window{From: 6, To: 2}, api.Window{From: 3, To: 5}, false},
	} {
		if window.Meet(c.a, c.b) != c.want || window.Meet(c.b, c.a) != c.want {
			t.Errorf("Meet(%v, %v) is not %v", c.a, c.b, c.want)
		}
	}
	for from := range int64(6) {
		for to := from + 1; to < 7; to++ {
			for otherFrom := range int64(6) {
				for otherTo := otherFrom + 1; otherTo < 7; otherTo++ {
					common := false
					for time := range int64(7) {
						common = common || time >= from && time < to && time >= otherFrom && time < otherTo
					}
					if window.Meet(api.Window{From: from, To: to}, api.Window{From: otherFrom, To: otherTo}) != common {
						t.Fatalf("%d to %d and %d to %d have a time in common: %v", from, to, otherFrom, otherTo, common)
					}
				}
			}
		}
	}
}

func TestT3Compare(t *testing.T) {
	l := windows()
	slices.SortFunc(l, func(a, b api.Window) int {
		if a.To != b.To {
			return cmp.Compare(a.To, b.To)
		}
		return cmp.Compare(a.From, b.From)
	})
	for i, a := range l {
		for k, b := range l {
			if got := window.Compare(a, b); got != cmp.Compare(i, k) {
				t.Fatalf("Compare(%v, %v): %d", a, b, got)
			}
		}
	}
	if window.Compare(api.Window{From: 5, To: 9}, api.Window{From: 1, To: 10}) != -1 || window.Compare(api.Window{From: 2, To: 9}, api.Window{From: 1, To: 9}) != 1 {
		t.Error("To does not count ahead of From")
	}
}

// joined is what T3 says of Merge, word by word: any two that meet are joined, until none do.
func joined(l []api.Window) []api.Window {
	left := slices.DeleteFunc(slices.Clone(l), func(w api.Window) bool { return w.To <= w.From })
again:
	for i := range left {
		for k := range i {
			if left[k].From < left[i].To && left[i].From < left[k].To {
				left[k] = api.Window{From: min(left[i].From, left[k].From), To: max(left[i].To, left[k].To)}
				left = slices.Delete(left, i, i+1)
				goto again
			}
		}
	}
	slices.SortFunc(left, func(a, b api.Window) int { return cmp.Compare(a.From, b.From) })
	return left
}

func TestT3Merge(t *testing.T) {
	for _, c := range []struct {
		in   []api.Window
		want string
	}{
		{nil, "[]"}, {[]api.Window{}, "[]"}, {[]api.Window{{From: 9, To: 9}, {From: 9, To: 8}, {From: math.MaxInt64, To: math.MinInt64}}, "[]"},
		{[]api.Window{{From: 1, To: 3}, {From: 3, To: 5}, {From: 9, To: 9}, {From: 2, To: 3}}, "[{1 3} {3 5}]"},
		{[]api.Window{{From: 1, To: 9}, {From: 2, To: 3}, {From: 8, To: 10}, {From: 5, To: 6}}, "[{1 10}]"},
		{[]api.Window{{From: 4, To: 6}, {From: 1, To: 3}, {From: 2, To: 5}}, "[{1 6}]"},
		{[]api.Window{{From: 4, To: 6}, {From: 4, To: 6}, {From: -4, To: -3}}, "[{-4 -3} {4 6}]"},
		{[]api.Window{{From: 1, To: 4}, {From: 2, To: 2}, {From: 4, To: 5}, {From: 6, To: 3}}, "[{1 4} {4 5}]"},
		{[]api.Window{{From: 0, To: math.MaxInt64}, {From: math.MinInt64, To: 1}}, fmt.Sprint("[{", math.MinInt64, " ", math.MaxInt64, "}]")},
	} {
		before := slices.Clone(c.in)
		if got := window.Merge(c.in); fmt.Sprint(got) != c.want {
			t.Errorf("Merge(%v): %v, want %s", c.in, got, c.want)
		}
		if !slices.Equal(c.in, before) {
			t.Errorf("Merge changed what was handed in: %v", c.in)
		}
	}
}

func TestT3MergeAtRandom(t *testing.T) {
	rnd := rand.New(rand.NewSource(6))
	all := windows()
	for round := range 20000 {
		in := make([]api.Window, rnd.Intn(9))
		for i := range in {
			if in[i] = all[rnd.Intn(len(all))]; round%2 == 0 {
				from := rnd.Int63n(40)
				in[i] = api.Window{From: from, To: from + rnd.Int63n(9) - 1}
			}
		}
		before := slices.Clone(in)
		if got, want := window.Merge(in), joined(in); !slices.Equal(got, want) {
			t.Fatalf("Merge(%v): %v, want %v", in, got, want)
		}
		if !slices.Equal(in, before) {
			t.Fatalf("Merge changed what was handed in: %v, was %v", in, before)
		}
	}
}

func TestT3MergeIsFresh(t *testing.T) {
	in := []api.Window{{From: 1, To: 3}, {From: 5, To: 6}}
	got := window.Merge(in)
	got[0].To = 99
	if in[0].To != 3 {
		t.Error("what comes out shares memory with what was handed in")
	}
}

package op_test

import (
	"fmt"
	"math"
	"slices"
	"strings"
	"testing"

	"streamwright/api"
	"streamwright/op"
	"streamwright/plain"
)

// comesOut checks what Out and New tell.
func comesOut(t *testing.T, o api.Op, want []api.Column, told api.Errno) {
	t.Helper()
	l, err := op.Out(o)
	if plain.Told(err) != told || !slices.Equal(l, want) || err != nil && l != nil {
		t.Errorf("Out(%+v): %v, %v, want %v, %v", o, l, err, want, told)
	}
	x, err := op.New(o, 0, 32)
	if plain.Told(err) != told || (x == nil) != (told != api.OK) {
		t.Errorf("New(%+v): %v, want %v", o, err, told)
	}
}

func faulty(t *testing.T, o api.Op, told api.Errno) {
	t.Helper()
	comesOut(t, o, nil, told)
}

// oneOfEach has operators of all kinds.
func oneOfEach() []api.Op {
	return []api.Op{
		where("b"), mapped("a", "c"), counted(tumble(10)), joined(tumble(10), true),
		{Kind: api.OpUnion, Columns: abc()}, {Kind: api.OpSink, Columns: abc()},
	}
}

func TestO2Out(t *testing.T) {
	comesOut(t, where("b"), abc(), api.OK)
	comesOut(t, mapped("a + 1", "c = ''", "c"), cols("n0 n1 n2", api.Int, api.Bool, api.Text), api.OK)
	comesOut(t, mapped(), nil, api.OK)
	comesOut(t, counted(tumble(10)), cols("k n", api.Int, api.Int), api.OK)
	comesOut(t, joined(tumble(10), true), cols("k v x y", api.Int, api.Int, api.Int, api.Int), api.OK)
	comesOut(t, joined(tumble(10), false), cols("k v x y", api.Int, api.Int, api.Int, api.Int), api.OK)
	comesOut(t, api.Op{Kind: api.OpUnion, Columns: abc()}, abc(), api.OK)
	comesOut(t, api.Op{Kind: api.OpSink, Columns: abc()}, abc(), api.OK)
}

func TestO2NoColumns(t *testing.T) {
	comesOut(t, api.Op{Kind: api.OpUnion}, nil, api.OK)
	comesOut(t, api.Op{Kind: api.OpSink}, nil, api.OK)
	comesOut(t, api.Op{Kind: api.OpWhere, Exprs: []string{"true"}}, nil, api.OK)
	comesOut(t, api.Op{Kind: api.OpMap, Exprs: []string{"1"}, Names: []string{"one"}}, cols("one", api.Int), api.OK)
	comesOut(t, api.Op{Kind: api.OpWindow, Windows: whole()}, nil, api.OK)
	comesOut(t, api.Op{Kind: api.OpJoin, Windows: whole()}, nil, api.OK)
	comesOut(t, api.Op{Kind: api.OpJoin, Windows: whole(), Right: xy()}, xy(), api.OK)
}

func TestO1Kinds(t *testing.T) {
	for _, kind := range []int{0, 1, 8, -1, math.MinInt, math.MaxInt} {
		faulty(t, api.Op{Kind: kind}, api.ErrRange)
		faulty(t, api.Op{Kind: kind, Columns: abc()}, api.ErrRange)
		for _, o := range oneOfEach() {
			o.Kind = kind
			faulty(t, o, api.ErrRange)
		}
	}
}

// filled has something in each place that may be unused, by its name.
func filled(o api.Op) map[string]api.Op {
	l := map[string]api.Op{}
	put := func(name string, change func(o *api.Op)) {
		changed := o
		change(&changed)
		l[name] = changed
	}
	put("Exprs", func(o *api.Op) { o.Exprs = []string{"true"} })
	put("Names", func(o *api.Op) { o.Names = []string{"q"} })
	put("Right", func(o *api.Op) { o.Right = cols("x", 1) })
	put("Keys", func(o *api.Op) { o.Keys = []int{0} })
	put("Others", func(o *api.Op) { o.Others = []int{0} })
	put("Windows", func(o *api.Op) { o.Windows = tumble(10) })
	put("Windows' Size", func(o *api.Op) { o.Windows = api.Windows{Size: 1} })
	put("Windows' Step", func(o *api.Op) { o.Windows = api.Windows{Step: 1} })
	put("Aggs", func(o *api.Op) { o.Aggs = []api.Agg{{Kind: api.Count, At: -1}} })
	put("Outer", func(o *api.Op) { o.Outer = true })
	return l
}

func TestO1WhatIsNotUsed(t *testing.T) {
	used := map[int]string{
		api.OpWhere: "Exprs", api.OpMap: "Exprs Names", api.OpWindow: "Keys Windows Windows' Size Windows' Step Aggs Names",
		api.OpJoin: "Right Keys Others Windows Windows' Size Windows' Step Outer", api.OpUnion: "", api.OpSink: "",
	}
	for _, o := range oneOfEach() {
		for name, one := range filled(o) {
			if strings.Contains(used[o.Kind], name) {
				continue
			}
			faulty(t, one, api.ErrRange)
			for _, two := range filled(one) {
				faulty(t, two, api.ErrRange)
			}
		}
		o.Exprs, o.Keys, o.Others, o.Aggs = append([]string{}, o.Exprs...), append([]int{}, o.Keys...), append([]int{}, o.Others...), append([]api.Agg{}, o.Aggs...)
		if _, err := op.Out(o); err != nil {
			t.Errorf("empty lists are not as none: %+v: %v", o, err)
		}
	}
	// It is told ahead of what the expression tells.
	o := where("a +")
	o.Outer = true
	faulty(t, o, api.ErrRange)
}

func TestO2NoneOfColumns(t *testing.T) {
	long := cols("a b c d e f g h i", 1, 1, 1, 1, 1, 1, 1, 1, 1)
	for _, wrong := range [][]api.Column{
		cols("a a", 1, 1), cols("a", 0), cols("a", 4), cols("a", -1), cols("and", 1), cols("1a", 1), cols("abcdefghijklm", 1), {{Kind: 1}}, {{Name: "a b", Kind: 1}}, long,
	} {
		for _, o := range oneOfEach() {
			o.Columns = wrong
			o.Keys, o.Others = nil, nil
			faulty(t, o, api.ErrRange)
		}
		o := joined(tumble(10), false)
		o.Right = wrong
		faulty(t, o, api.ErrRange)
	}
	// The columns are looked at ahead of the expression.
	faulty(t, api.Op{Kind: api.OpWhere, Columns: cols("a a", 1, 1), Exprs: []string{"a +"}}, api.ErrRange)
	faulty(t, api.Op{Kind: api.OpMap, Columns: long, Exprs: []string{"z"}, Names: []string{"z"}}, api.ErrRange)
	faulty(t, api.Op{Kind: api.OpSink, Columns: long}, api.ErrRange)
}

func TestO2Where(t *testing.T) {
	for text, want := range map[string]api.Errno{
		"a": api.ErrType, "c": api.ErrType, "a > 1 and b": api.OK, "": api.ErrSyntax, "b or": api.ErrSyntax, "d": api.ErrName, "not a": api.ErrType, "f(a)": api.ErrName,
		strings.Repeat(" ", 200) + "b": api.ErrFull, strings.Repeat(" ", 199) + "b": api.OK, strings.Repeat("(", 13) + "b" + strings.Repeat(")", 13): api.ErrRange,
	} {
		if want == api.OK {
			comesOut(t, where(text), abc(), want)
		} else {
			faulty(t, where(text), want)
		}
	}
	for _, texts := range [][]string{nil, {}, {"b", "b"}, {"a +", "b"}} {
		faulty(t, api.Op{Kind: api.OpWhere, Columns: abc(), Exprs: texts}, api.ErrRange)
	}
}

func TestO2Map(t *testing.T) {
	for _, c := range []struct {
		texts []string
		want  api.Errno
	}{
		{[]string{"a", "z", "a +"}, api.ErrName}, {[]string{"a", "a +", "z"}, api.ErrSyntax}, {[]string{"a + c", "z"}, api.ErrType}, {[]string{strings.Repeat("1", 201), ""}, api.ErrFull}, {[]string{"a", ""}, api.ErrSyntax},
		{slices.Repeat([]string{"a"}, 9), api.ErrFull}, {append(slices.Repeat([]string{"a"}, 20), "z"), api.ErrName},
	} {
		faulty(t, mapped(c.texts...), c.want)
	}
	comesOut(t, mapped(slices.Repeat([]string{"b"}, 8)...), cols("n0 n1 n2 n3 n4 n5 n6 n7", 2, 2, 2, 2, 2, 2, 2, 2), api.OK)
	for _, names := range []string{"", "p", "p q r"} {
		o := mapped("a", "z")
		o.Names = strings.Fields(names)
		faulty(t, o, api.ErrRange)
	}
	for _, names := range [][]string{{"p", "p"}, {"p", ""}, {"not", "p"}, {"p", "abcdefghijklm"}, {"p", "p q"}} {
		o := mapped("a", "b")
		o.Names = names
		faulty(t, o, api.ErrName)
	}
	o := mapped(slices.Repeat([]string{"a"}, 9)...)
	o.Names[0] = "and"
	faulty(t, o, api.ErrFull)
	comesOut(t, api.Op{Kind: api.OpMap, Columns: abc(), Exprs: []string{"b", "c"}, Names: []string{"a", "abcdefghijkl"}}, cols("a abcdefghijkl", 2, 3), api.OK)
}

func TestO2Window(t *testing.T) {
	o := api.Op{Kind: api.OpWindow, Columns: abc(), Keys: []int{2, 0}, Windows: session(5), Names: []string{"n", "s", "lo", "hi", "f", "d"}, Aggs: []api.Agg{{Kind: api.Count, At: -1}, {Kind: api.Sum, At: 0}, {Kind: api.Min, At: 1}, {Kind: api.Max, At: 2}, {Kind: api.First, At: 0}, {Kind: api.Distinct, At: 2}}}
	comesOut(t, o, cols("c a n s lo hi f d", 3, 1, 1, 1, 2, 3, 1, 1), api.OK)
	o.Keys = []int{2, 0, 1}
	faulty(t, o, api.ErrFull)
	o.Names[5] = "n"
	faulty(t, o, api.ErrFull)
	o.Keys = nil
	faulty(t, o, api.ErrName)
	o.Aggs, o.Names, o.Keys = []api.Agg{{Kind: api.Last, At: 1}, {Kind: api.Distinct, At: 1}}, []string{"l", "d"}, []int{1}
	comesOut(t, o, cols("b l d", 2, 2, 1), api.OK)
	o.Names[0] = "b"
	faulty(t, o, api.ErrName)
	o.Keys, o.Aggs, o.Names = []int{0, 1, 2}, nil, nil
	comesOut(t, o, abc(), api.OK)
	for _, w := range []api.Windows{tumble(1), tumble(1 << 20), slide(10, 4), session(1 << 20), whole(), slide(129, 2)} {
		o.Windows = w
		comesOut(t, o, abc(), api.OK)
	}
	for _, w := range []api.Windows{{}, tumble(0), tumble(1<<20 + 1), slide(10, 0), slide(10, 11), slide(130, 2), {Kind: 4, Size: 1}, {Kind: 5}, {Kind: 1, Size: 5, Step: 5}} {
		o.Windows = w
		faulty(t, o, api.ErrRange)
	}
}

func TestO2WindowKeys(t *testing.T) {
	o := counted(tumble(10))
	for _, keys := range [][]int{{2}, {-1}, {0, 1, 2}, {math.MinInt}, {math.MaxInt}, make([]int, 9)} {
		o.Keys = keys
		faulty(t, o, api.ErrRange)
	}
	o.Keys = []int{1, 0}
	comesOut(t, o, cols("v k n", 1, 1, 1), api.OK)
	o.Keys = []int{1, 1}
	faulty(t, o, api.ErrName)
	o.Keys = make([]int, 8)
	faulty(t, o, api.ErrFull)
	o.Keys = nil
	comesOut(t, o, cols("n", 1), api.OK)
}

func TestO2WindowAggs(t *testing.T) {
	good, none, untyped := api.Agg{Kind: api.Sum, At: 0}, api.Agg{Kind: 8, At: 0}, api.Agg{Kind: api.Sum, At: 2}
	for _, c := range []struct {
		l    []api.Agg
		want api.Errno
	}{
		{[]api.Agg{none}, api.ErrRange}, {[]api.Agg{{Kind: 0, At: -1}}, api.ErrRange}, {[]api.Agg{{Kind: -1, At: 0}}, api.ErrRange}, {[]api.Agg{{Kind: math.MaxInt}}, api.ErrRange},
		{[]api.Agg{{Kind: api.Count, At: 0}}, api.ErrRange}, {[]api.Agg{{Kind: api.Count, At: -2}}, api.ErrRange}, {[]api.Agg{{Kind: api.Count}}, api.ErrRange},
		{[]api.Agg{untyped}, api.ErrType}, {[]api.Agg{{Kind: api.Sum, At: 1}}, api.ErrType},
		{[]api.Agg{good, none, untyped}, api.ErrRange}, {[]api.Agg{good, untyped, none}, api.ErrType}, {append(make([]api.Agg, 9), untyped), api.ErrRange}, {append(slices.Repeat([]api.Agg{good}, 9), untyped), api.ErrType},
	} {
		o := api.Op{Kind: api.OpWindow, Columns: abc(), Windows: whole(), Aggs: c.l}
		for i := range c.l {
			o.Names = append(o.Names, fmt.Sprint("n", i))
		}
		faulty(t, o, c.want)
		o.Names = o.Names[1:]
		faulty(t, o, api.ErrRange)
		o.Names = append(o.Names, "x", "y")
		faulty(t, o, api.ErrRange)
	}
	for kind := api.Sum; kind <= api.Distinct; kind++ {
		for _, at := range []int{-1, 3, math.MinInt, math.MaxInt} {
			faulty(t, api.Op{Kind: api.OpWindow, Columns: abc(), Windows: whole(), Aggs: []api.Agg{{Kind: kind, At: at}}, Names: []string{"n"}}, api.ErrRange)
		}
	}
	for _, name := range []string{"", "true", "abcdefghijklm", "1"} {
		faulty(t, api.Op{Kind: api.OpWindow, Columns: abc(), Windows: whole(), Aggs: []api.Agg{good}, Names: []string{name}}, api.ErrName)
	}
	// A fault of the keys, of the windows, or of the names is told ahead of those of the ways.
	faulty(t, api.Op{Kind: api.OpWindow, Columns: abc(), Keys: []int{3}, Windows: whole(), Aggs: []api.Agg{untyped}, Names: []string{"n"}}, api.ErrRange)
	faulty(t, api.Op{Kind: api.OpWindow, Columns: abc(), Aggs: []api.Agg{untyped}, Names: []string{"n"}}, api.ErrRange)
}

func TestO2Join(t *testing.T) {
	o := api.Op{Kind: api.OpJoin, Columns: abc(), Right: cols("p q r s t", 3, 1, 2, 1, 1), Keys: []int{2, 0, 0}, Others: []int{0, 1, 4}, Windows: slide(10, 5)}
	comesOut(t, o, cols("a b c p q r s t", 1, 2, 3, 3, 1, 2, 1, 1), api.OK)
	for _, c := range []struct {
		keys, others []int
		want         api.Errno
	}{
		{[]int{0}, []int{0}, api.ErrType}, {[]int{0, 2}, []int{1, 2}, api.ErrType}, {[]int{1}, []int{3}, api.ErrType},
		{[]int{0}, nil, api.ErrRange}, {nil, []int{1}, api.ErrRange}, {[]int{0, 0}, []int{1}, api.ErrRange},
		{[]int{3}, []int{1}, api.ErrRange}, {[]int{0}, []int{5}, api.ErrRange}, {[]int{-1}, []int{1}, api.ErrRange}, {[]int{0}, []int{-1}, api.ErrRange}, {[]int{0, 3}, []int{0, 1}, api.ErrRange}, {[]int{0, 0}, []int{0, math.MaxInt}, api.ErrRange},
		{make([]int, 9), slices.Repeat([]int{1}, 9), api.ErrRange}, {make([]int, 9), make([]int, 9), api.ErrRange},
	} {
		wrong := o
		wrong.Keys, wrong.Others = c.keys, c.others
		faulty(t, wrong, c.want)
	}
	o.Keys, o.Others = make([]int, 8), slices.Repeat([]int{1}, 8)
	comesOut(t, o, slices.Concat(abc(), o.Right), api.OK)
	o.Keys, o.Others = nil, nil
	comesOut(t, o, slices.Concat(abc(), o.Right), api.OK)
	o.Right = cols("p q r s t u", 3, 1, 2, 1, 1, 1)
	faulty(t, o, api.ErrFull)
	o.Right = cols("p q r s t a", 3, 1, 2, 1, 1, 1)
	faulty(t, o, api.ErrFull)
	o.Right = cols("p a", 3, 1)
	faulty(t, o, api.ErrName)
	o.Windows = tumble(-1)
	faulty(t, o, api.ErrRange)
	o.Windows, o.Keys, o.Others = api.Windows{}, []int{0}, []int{0}
	faulty(t, o, api.ErrRange)
}

func TestO3NewGroups(t *testing.T) {
	for _, o := range oneOfEach() {
		for _, bounds := range [][2]int{{0, 0}, {0, 32}, {32, 32}, {7, 8}} {
			some(t, o, bounds[0], bounds[1])
		}
		for _, bounds := range [][2]int{{-1, 5}, {5, 4}, {0, 33}, {33, 33}, {math.MinInt, math.MaxInt}, {3, math.MinInt}} {
			if x, err := op.New(o, bounds[0], bounds[1]); plain.Told(err) != api.ErrRange || x != nil {
				t.Errorf("groups %v: %v", bounds, err)
			}
		}
	}
	if _, err := op.New(where("z"), 5, 4); plain.Told(err) != api.ErrName {
		t.Errorf("a fault of Out, and of the groups: %v", err)
	}
}

func TestP2OutIsFresh(t *testing.T) {
	for _, o := range oneOfEach() {
		before := fmt.Sprintf("%+v", o)
		a, _ := op.Out(o)
		for i := range a[:cap(a)] {
			a[:cap(a)][i] = api.Column{Name: "other"}
		}
		if after := fmt.Sprintf("%+v", o); after != before {
			t.Errorf("%s, and then %s", before, after)
		}
	}
}

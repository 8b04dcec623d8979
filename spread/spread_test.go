package spread_test

import (
	"math/rand"
	"testing"

	"streamwright/api"
	"streamwright/spread"
	"streamwright/value"
)

func TestX1Owner(t *testing.T) {
	for _, c := range []struct{ group, par, want int }{
		{0, 1, 0}, {31, 1, 0}, {15, 2, 0}, {16, 2, 1}, {31, 2, 1}, {10, 3, 0}, {11, 3, 1}, {21, 3, 1}, {22, 3, 2}, {31, 3, 2},
		{7, 4, 0}, {8, 4, 1}, {15, 4, 1}, {16, 4, 2}, {23, 4, 2}, {24, 4, 3}, {31, 4, 3},
	} {
		if got := spread.Owner(c.group, c.par); got != c.want {
			t.Errorf("Owner(%d, %d): %d, want %d", c.group, c.par, got, c.want)
		}
	}
}

// TestX1Range: each group is in the range of its owner, and in no other one.
func TestX1Range(t *testing.T) {
	for par := 1; par <= api.MaxPar; par++ {
		end := 0
		for task := range par {
			lo, hi := spread.Range(task, par)
			if lo != end || hi <= lo {
				t.Errorf("Range(%d, %d): %d to %d, behind %d", task, par, lo, hi, end)
			}
			end = hi
			for group := range api.Groups {
				if in, owns := lo <= group && group < hi, spread.Owner(group, par) == task; in != owns {
					t.Errorf("Range(%d, %d): group %d: %v, by its owner %v", task, par, group, in, owns)
				}
			}
		}
		if end != api.Groups {
			t.Errorf("of %d tasks the last one ends at %d", par, end)
		}
	}
}

// TestX1Nothing: of what there is not, no task and no groups are told.
func TestX1Nothing(t *testing.T) {
	owner := func(group, par int) {
		if got := spread.Owner(group, par); got != 0 {
			t.Errorf("Owner(%d, %d): %d", group, par, got)
		}
	}
	none := func(task, par int) {
		if lo, hi := spread.Range(task, par); lo != 0 || hi != 0 {
			t.Errorf("Range(%d, %d): %d to %d", task, par, lo, hi)
		}
	}
	for _, n := range far() {
		owner(n, 3)
		owner(31, n)
		none(n, 3)
		none(0, n)
		none(3, n)
		for _, m := range far() {
			owner(n, m)
			none(n, m)
		}
	}
	owner(32, 4)
	owner(31, 0)
	owner(31, 5)
	for par := range 6 {
		none(par, par)
	}
	none(0, 0)
	none(0, 5)
	none(4, 5)
}

func TestX3Straight(t *testing.T) {
	g := expanded(t, parsed(t, "stream s (a int)", "x = s where a > 0"), 4, 4)
	for task := range 4 {
		for n := range int64(40) {
			r := api.Row{Time: n, Values: []api.Value{value.Of(n)}}
			if got := spread.Target(g, 0, task, r); got != task {
				t.Errorf("from task %d the row of %d goes to %d", task, n, got)
			}
		}
	}
}

// TestX3ByKey: a row goes to the task of which the range has its key's group,
// of each input of a join by its own columns.
func TestX3ByKey(t *testing.T) {
	rnd := rand.New(rand.NewSource(9))
	j := parsed(t, "stream s (a int, b int)", "stream o (c int, d int, e int)", "x = s join o on b = e and a = d in whole", "y = s by b in whole")
	for par := 1; par <= api.MaxPar; par++ {
		g := expanded(t, j, 2, par, par, par)
		if len(g.Edges) != 3 {
			t.Fatal("X2")
		}
		lands := func(edge int, r api.Row, group int) {
			t.Helper()
			got := spread.Target(g, edge, 1, r)
			if lo, hi := spread.Range(got, par); group < lo || group >= hi {
				t.Errorf("edge %d of %d tasks: the group %d goes to %d", edge, par, group, got)
			}
		}
		for range 200 {
			a, b, other := value.Of(rnd.Int63()), value.Of(rnd.Int63n(9)), value.Of(rnd.Int63())
			both := value.Group([]api.Value{b, a})
			lands(0, api.Row{Values: []api.Value{a, b}}, both)
			lands(1, api.Row{Time: 9, Values: []api.Value{other, a, b}}, both)
			lands(2, api.Row{Values: []api.Value{a, b}}, value.Group([]api.Value{b}))
		}
		lands(2, api.Row{Values: []api.Value{value.Of(7), {}}}, value.Group([]api.Value{{}}))
	}
}

func TestX3ByNothing(t *testing.T) {
	g := expanded(t, parsed(t, "stream s (a int)", "y = s by nothing in whole"), 1, 4)
	want := spread.Owner(value.Group(nil), 4)
	for n := range int64(40) {
		if got := spread.Target(g, 0, 0, api.Row{Values: []api.Value{value.Of(n)}}); got != want {
			t.Errorf("the row of %d goes to %d, want %d", n, got, want)
		}
	}
}

func TestX3ByRow(t *testing.T) {
	g := expanded(t, parsed(t, "stream s (a int, b text)", "x = s where a > 0"), 2, 4)
	var met [4]int
	for n := range int64(200) {
		r := api.Row{Time: n, Values: []api.Value{value.Of(n % 20), value.Words("w")}}
		want := value.Group(r.Values) * 4 / 32
		for from := range 2 {
			if got := spread.Target(g, 0, from, r); got != want {
				t.Errorf("from task %d the row %v goes to %d, want %d", from, r.Values, got, want)
			}
		}
		met[want]++
	}
	for task, n := range met {
		if n == 0 {
			t.Errorf("no row goes to task %d", task)
		}
	}
}

// TestX3Anything: whatever the graph, the numbers and the row are, a call
// ends; where there is no way, the task is 0.
func TestX3Anything(t *testing.T) {
	g := expanded(t, parsed(t, "stream s (a int, b int)", "x = s by b in whole", "y = s where a > 0"), 1, 4, 3)
	good := api.Row{Values: []api.Value{value.Of(7), value.Of(5)}}
	zero := func(g api.Graph, edge int, r api.Row) {
		t.Helper()
		for _, from := range append(far(), 0, 1) {
			if got := spread.Target(g, edge, from, r); got != 0 {
				t.Errorf("Target by edge %d from %d of %v: %d", edge, from, r, got)
			}
		}
	}
	for _, edge := range append(far(), 2) {
		zero(g, edge, good)
		zero(api.Graph{}, edge, good)
	}
	zero(api.Graph{}, 0, good)
	zero(g, 0, api.Row{})
	zero(g, 0, api.Row{Values: good.Values[:1]})
	for _, n := range append(far(), 2) {
		wrong := func(e api.Edge, par int) api.Graph {
			return api.Graph{Par: []int{1, par}, Edges: []api.Edge{e}}
		}
		zero(wrong(api.Edge{To: n, Way: api.ByRow}, 4), 0, good)
		zero(wrong(api.Edge{To: n, Way: api.ByKey}, 4), 0, good)
		zero(wrong(api.Edge{To: 1, Way: api.ByKey, Keys: []int{n}}, 4), 0, good)
		zero(wrong(api.Edge{To: 1, Way: api.ByKey, Keys: []int{1, n}}, 4), 0, good)
		zero(wrong(api.Edge{To: 1, Way: n * 2}, 4), 0, good)
	}
	for _, par := range append(far(), 0, 5) {
		zero(api.Graph{Par: []int{par}, Edges: []api.Edge{{Way: api.ByRow}}}, 0, good)
	}
	for _, r := range []api.Row{{Time: -1, Values: make([]api.Value, 1000)}, {Values: []api.Value{{Kind: 9, Int: 1, Text: "x"}, {Kind: -1}}}} {
		for edge := range 2 {
			if got := spread.Target(g, edge, 0, r); got < 0 || got > 3 {
				t.Errorf("Target of %v: %d", r, got)
			}
		}
	}
}

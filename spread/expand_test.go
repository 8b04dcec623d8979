package spread_test

import (
	"fmt"
	"math/rand"
	"reflect"
	"testing"

	"streamwright/api"
	"streamwright/plain"
	"streamwright/spread"
)

// every has nodes of all kinds, and a union in which an input stands twice.
func every(t *testing.T) api.Job {
	t.Helper()
	return parsed(t,
		"stream s (a int, b text) late 5",
		"stream o (c text, d int)",
		"w = s where a > 0",
		"m = w select a + 1 as a, b as b",
		"u = s union m, s",
		"k = u by b in slide 10 every 5 give sum(a) as n, count() as z",
		"n = u by nothing in whole",
		"j = s outer join o on b = c and a = d in tumble 10",
		"sink z = j",
	)
}

func TestX2Expand(t *testing.T) {
	for _, c := range []struct {
		lines           []string
		par             []int
		edges, channels string
	}{
		{nil, nil, "[]", "[]"},
		{[]string{"stream s (a int)"}, []int{4}, "[]", "[]"},
		{[]string{"stream s (a int)", "sink x = s"}, []int{1, 1}, "[{0 1 0 1 []}]", "[{0 0 0}]"},
		{[]string{"stream s (a int)", "sink x = s"}, []int{3, 3}, "[{0 1 0 1 []}]", "[{0 0 0} {0 1 1} {0 2 2}]"},
		{[]string{"stream s (a int)", "sink x = s"}, []int{1, 3}, "[{0 1 0 3 []}]", "[{0 0 0} {0 0 1} {0 0 2}]"},
		{[]string{"stream s (a int)", "sink x = s"}, []int{3, 2}, "[{0 1 0 3 []}]", "[{0 0 0} {0 0 1} {0 1 0} {0 1 1} {0 2 0} {0 2 1}]"},
		// As many tasks are no matter where rows are kept by keys.
		{[]string{"stream s (a int, b int)", "k = s by b, a in whole"}, []int{2, 2}, "[{0 1 0 2 [1 0]}]", "[{0 0 0} {0 0 1} {0 1 0} {0 1 1}]"},
		{[]string{"stream s (a int)", "k = s by nothing in whole"}, []int{1, 1}, "[{0 1 0 2 []}]", "[{0 0 0}]"},
		{
			[]string{"stream s (a int, b text)", "stream o (c text, d int)", "j = s join o on b = c and a = d in tumble 10", "i = o join s on d = a in whole"}, []int{1, 2, 2, 1},
			"[{0 2 0 2 [1 0]} {1 2 1 2 [0 1]} {1 3 0 2 [1]} {0 3 1 2 [0]}]",
			"[{0 0 0} {0 0 1} {1 0 0} {1 0 1} {1 1 0} {1 1 1} {2 0 0} {2 1 0} {3 0 0}]",
		},
		// An input that stands in a union twice has two edges; all are input 0.
		{
			[]string{"stream s (a int)", "stream r (a int)", "u = s union r, s"}, []int{2, 1, 2},
			"[{0 2 0 1 []} {1 2 0 3 []} {0 2 0 1 []}]", "[{0 0 0} {0 1 1} {1 0 0} {1 0 1} {2 0 0} {2 1 1}]",
		},
		// Kept by keys are a node's own rows: what comes out of it goes on as any.
		{
			[]string{"stream s (a int)", "k = s by a in whole", "m = k select a as b", "sink x = m"}, []int{1, 2, 2, 1},
			"[{0 1 0 2 [0]} {1 2 0 1 []} {2 3 0 3 []}]", "[{0 0 0} {0 0 1} {1 0 0} {1 1 1} {2 0 0} {2 1 0}]",
		},
	} {
		g := expanded(t, parsed(t, c.lines...), c.par...)
		if edges, channels := fmt.Sprint(g.Edges), fmt.Sprint(g.Channels); edges != c.edges || channels != c.channels {
			t.Errorf("%q with %v: %s, want %s; %s, want %s", c.lines, c.par, edges, c.edges, channels, c.channels)
		}
	}
}

// secondReading gives what Expand should, asked otherwise: each channel that
// there could be is looked at.
func secondReading(j api.Job, par []int) (edges []api.Edge, channels []api.Channel) {
	for to, n := range j.Nodes {
		for i, from := range n.Inputs {
			e := api.Edge{From: from, To: to}
			switch kind := n.Op.Kind; {
			case kind == api.OpJoin && i == 1:
				e.Input, e.Way, e.Keys = 1, 2, n.Op.Others
			case kind == api.OpJoin || kind == api.OpWindow:
				e.Way, e.Keys = 2, n.Op.Keys
			case par[from] == par[to]:
				e.Way = 1
			default:
				e.Way = 3
			}
			edges = append(edges, e)
		}
	}
	for number := range len(edges) * 16 {
		c := api.Channel{Edge: number / 16, From: number / 4 % 4, To: number % 4}
		e := edges[c.Edge]
		if c.From < par[e.From] && c.To < par[e.To] && (e.Way != 1 || c.From == c.To) {
			channels = append(channels, c)
		}
	}
	return edges, channels
}

func TestX2AtRandom(t *testing.T) {
	rnd := rand.New(rand.NewSource(8))
	j := every(t)
	for range 2000 {
		var par []int
		for range j.Nodes {
			par = append(par, 1+rnd.Intn(4))
		}
		g := expanded(t, j, par...)
		edges, channels := secondReading(j, par)
		if fmt.Sprint(g.Edges) != fmt.Sprint(edges) || fmt.Sprint(g.Channels) != fmt.Sprint(channels) {
			t.Fatalf("with %v: %v, want %v; %v, want %v", par, g.Edges, edges, g.Channels, channels)
		}
		if !reflect.DeepEqual(g.Job, j) || fmt.Sprint(g.Par) != fmt.Sprint(par) {
			t.Fatalf("with %v: %v of another job, %+v", par, g.Par, g.Job)
		}
	}
}

// refused checks that there is no graph.
func refused(t *testing.T, j api.Job, par []int) {
	t.Helper()
	g, err := spread.Expand(j, par)
	if plain.Told(err) != api.ErrRange || !reflect.DeepEqual(g, api.Graph{}) {
		t.Errorf("Expand of %d nodes with %v: %v, %+v, want ErrRange", len(j.Nodes), par, err, g)
	}
}

func TestX2Range(t *testing.T) {
	j := parsed(t, "stream s (a int)", "x = s where a > 0", "sink y = x")
	for _, par := range [][]int{nil, {}, {1}, {1, 1}, {1, 1, 1, 1}, make([]int, 3), make([]int, 1000)} {
		refused(t, j, par)
	}
	for _, n := range append(far(), 0, 5) {
		refused(t, j, []int{n, 1, 1})
		refused(t, j, []int{4, n, 4})
		refused(t, j, []int{1, 2, n})
		refused(t, j, []int{n, n, n})
	}
	refused(t, api.Job{}, []int{1})
	expanded(t, j, 4, 4, 4)
	expanded(t, j, 1, 1, 1)
}

// TestX2OtherJobs: a job that Parse did not give leads to no panic; where an
// input is no node ahead, there is no graph.
func TestX2OtherJobs(t *testing.T) {
	source := api.Node{Op: api.Op{Kind: api.OpSource}}
	for _, from := range append(far(), 1, 2) {
		refused(t, api.Job{Nodes: []api.Node{source, {Inputs: []int{from}}}}, []int{1, 2})
		refused(t, api.Job{Nodes: []api.Node{source, {Inputs: []int{0, from}, Op: api.Op{Kind: api.OpJoin}}}}, []int{1, 2})
	}
	refused(t, api.Job{Nodes: []api.Node{{Inputs: []int{0}}}}, []int{1})
	for _, kind := range append(far(), 0, api.OpSource, api.OpWindow, api.OpJoin, 8) {
		g := expanded(t, api.Job{Nodes: []api.Node{source, {Inputs: []int{0, 0, 0}, Op: api.Op{Kind: kind}}}}, 1, 2)
		if len(g.Edges) != 3 || len(g.Channels) != 6 {
			t.Errorf("kind %d: %v, %v", kind, g.Edges, g.Channels)
		}
	}
}

func TestX2IsFresh(t *testing.T) {
	j, par := every(t), []int{1, 2, 1, 1, 2, 3, 4, 2, 1}
	one, other := expanded(t, j, par...), expanded(t, j, par...)
	apart(t, "Expand", j, par, one, other)
	if !reflect.DeepEqual(j, every(t)) || fmt.Sprint(par) != "[1 2 1 1 2 3 4 2 1]" {
		t.Error("what was handed in is another one")
	}
}

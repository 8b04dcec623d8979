package cluster

import (
	"fmt"
	"slices"
	"testing"

	"streamwright/api"
	"streamwright/value"
)

// drained writes all that flows of each partition of each node.
func drained(c *Cluster) string {
	s := ""
	for _, parts := range c.in.parts {
		for _, r := range parts {
			for !r.Ended() {
				s += fmt.Sprint(r.Take(), " ")
			}
			s += "| "
		}
		s += "/ "
	}
	return s
}

// TestC1Fresh: a new cluster has nothing on its disk and in its table, and
// nothing was read; what was handed in is not kept.
func TestC1Fresh(t *testing.T) {
	const text = "stream r (n int)\nw = r where n > 0\nstream s (n int) late 3\nsink x = s"
	one := func() []api.Log {
		return []api.Log{{Stream: "s", Parts: [][]api.Row{
			{{Time: 5, Values: []api.Value{value.Of(1)}}, {Time: 1, Values: []api.Value{value.Of(2)}}},
			nil,
			{{Time: 7, Values: []api.Value{value.Of(3)}}},
		}}}
	}
	in := one()
	c, err := New(text, in)
	if err != nil {
		t.Fatal(err)
	}
	if names, loose := c.disk.Names(), c.disk.Loose(); len(names) != 0 || loose != 0 {
		t.Errorf("on the disk there are %v, %d are loose", names, loose)
	}
	if prepared, rows := c.table.Prepared(), c.table.Rows("x"); len(prepared) != 0 || len(rows) != 0 {
		t.Errorf("in the table there are %v and %v", prepared, rows)
	}
	for _, r := range slices.Concat(c.in.parts...) {
		if r.At() != 0 || r.Time() != api.Never {
			t.Errorf("%d were read, the time is %d", r.At(), r.Time())
		}
	}
	for _, part := range in[0].Parts {
		for i := range part {
			part[i].Values[0] = value.Of(99)
			part[i] = api.Row{Time: 99}
		}
	}
	clear(in[0].Parts)
	in[0].Stream = "r"
	const want = "/ / [{1 {5 [{1 1 }]} 0 0} {2 {0 []} 2 0}] [] [{2 {0 []} 1099511627777 0}] | " +
		"[{2 {0 []} 1099511627777 0}] | [{1 {7 [{1 3 }]} 0 0} {2 {0 []} 4 0}] [{2 {0 []} 1099511627777 0}] | / / "
	if got := drained(c); got != want {
		t.Errorf("what flows: %s, want %s", got, want)
	}
}

package cluster_test

import (
	"fmt"
	"math"
	"strings"
	"testing"

	"streamwright/api"
	"streamwright/cluster"
)

// two has streams of one number each, s and r, and a sink of both.
const two = "stream s (n int)\nstream r (n int)\nboth = s union r\nsink x = both"

func TestC1New(t *testing.T) {
	makes(t, two, nil, api.OK)
	makes(t, two, logs(log("r", times(4, 2)), log("s", times(1), nil, times(7))), api.OK)
	makes(t, two, logs(log("s")), api.OK)
	makes(t, "", nil, api.OK)
	makes(t, "# nothing\n\n", nil, api.OK)
	makes(t, "stream s (n int)", logs(log("s", times(1))), api.OK) // without a sink
}

func TestC1Job(t *testing.T) {
	for text, why := range map[string]api.Errno{
		"stream":                                       api.ErrSyntax,
		two + "\nsink y =":                             api.ErrSyntax,
		two + "\nsink y = x":                           api.ErrName,
		two + "\nsink x = s":                           api.ErrName,
		two + "\nw = s where n":                        api.ErrType,
		two + "\nw = s by n in slide 5 every 6":        api.ErrRange,
		two + "\nj = both join both on n = n in whole": api.ErrName,
		two + "\nu = s union s\nv = u union u\nw = v union v, v, v\ny = w by n in slide 64 every 1": api.ErrFull,
		strings.Repeat("\n", api.MaxJob+1): api.ErrFull,
	} {
		makes(t, text, nil, why)
		// Whatever the logs are: the job is looked at ahead of them.
		makes(t, text, logs(log("q")), why)
		makes(t, text, logs(log("s", many(101))), why)
		makes(t, text, logs(log("s", []api.Row{row(-1)})), why)
	}
}

func TestC1Names(t *testing.T) {
	for _, name := range []string{"", "t", "S", "s ", "both", "x", "s\x00", strings.Repeat("s", 99)} {
		makes(t, two, logs(log(name)), api.ErrName)
		makes(t, two, logs(log("s", times(1)), log(name, times(1))), api.ErrName)
	}
	makes(t, "", logs(log("s")), api.ErrName)
	makes(t, two, logs(log("s"), log("s")), api.ErrName)
	makes(t, two, logs(log("s"), log("r"), log("s")), api.ErrName)
	makes(t, two, logs(log("s", times(1)), log("s", times(2))), api.ErrName)
	makes(t, two, make([]api.Log, 9), api.ErrName)
}

func TestC1Rows(t *testing.T) {
	const text = "stream s (n int, b bool, w text)\nsink x = s"
	for _, r := range []api.Row{
		row(0, 1, true, ""), row(api.MaxTime, -1, false, strings.Repeat("w", api.MaxText)), row(3, nil, nil, nil), row(3, nil, true, nil),
		row(3, math.MinInt64, false, "\x00\xff'\\"),
	} {
		makes(t, text, logs(log("s", []api.Row{r})), api.OK)
	}
	bad := []api.Row{
		row(-1, 1, true, "w"), row(api.MaxTime+1, 1, true, "w"), row(math.MinInt64, 1, true, "w"), row(math.MaxInt64, 1, true, "w"),
		row(3), row(3, 1), row(3, 1, true), row(3, 1, true, "w", nil), row(3, 1, true, "w", 4, 5, 6, 7, 8, 9),
		row(3, true, true, "w"), row(3, "w", true, "w"), row(3, 1, 1, "w"), row(3, 1, "w", "w"), row(3, 1, true, 1), row(3, true, 1, "w"),
		row(3, 1, true, strings.Repeat("w", api.MaxText+1)),
	}
	for i, v := range []api.Value{
		{Kind: api.Int, Int: 1, Text: "w"}, {Kind: api.Bool, Int: 2}, {Kind: api.Text, Int: 1, Text: "w"},
		{Kind: api.Null, Int: 1}, {Kind: api.Null, Text: "w"}, {Kind: 4}, {Kind: -1}, {Kind: math.MaxInt},
	} {
		r := row(3, 1, true, "w")
		r.Values[i%3] = v
		bad = append(bad, r)
	}
	good := row(3, 1, true, "w")
	for _, r := range bad {
		makes(t, text, logs(log("s", []api.Row{r})), api.ErrRange)
		makes(t, text, logs(log("s", nil, []api.Row{good}, []api.Row{good, good, r, good}, nil)), api.ErrRange)
	}
	// A row fits the columns of its own stream.
	const other = "stream s (n int)\nstream w (w text)"
	makes(t, other, logs(log("w", []api.Row{row(1, "w")}), log("s", []api.Row{row(1, 1)})), api.OK)
	makes(t, other, logs(log("w", []api.Row{row(1, 1)}), log("s", []api.Row{row(1, 1)})), api.ErrRange)
	makes(t, other, logs(log("w", []api.Row{row(1, "w")}), log("s", []api.Row{row(1, "w")})), api.ErrRange)
}

func TestC1Full(t *testing.T) {
	parts := func(n int, first ...[]api.Row) [][]api.Row { return append(first, make([][]api.Row, n-len(first))...) }
	makes(t, two, logs(log("s", many(100))), api.OK)
	makes(t, two, logs(log("s", many(101))), api.ErrFull)
	makes(t, two, logs(log("s", many(50), many(50))), api.OK)
	makes(t, two, logs(log("s", many(50), many(51))), api.ErrFull)
	makes(t, two, logs(log("s", many(1), many(1), many(1), many(1), many(1), many(96))), api.ErrFull)
	makes(t, two, logs(log("s", parts(6)...)), api.OK)
	makes(t, two, logs(log("s", parts(7)...)), api.ErrFull)
	makes(t, two, logs(log("s", parts(6, many(100))...)), api.OK)
	makes(t, two, logs(log("s", parts(6, many(100), many(1))...)), api.ErrFull)
	makes(t, two, logs(log("s", parts(1000)...)), api.ErrFull)
	makes(t, two, logs(log("s", many(5000))), api.ErrFull)
	// Each stream may have as many.
	makes(t, two, logs(log("s", parts(6, many(99), many(1))...), log("r", parts(6, many(100))...)), api.OK)
	makes(t, two, logs(log("s", many(100)), log("r", many(101))), api.ErrFull)
}

// TestC1FirstFault: Log by Log, and of each in the order in which they are named.
func TestC1FirstFault(t *testing.T) {
	bad := []api.Row{row(-1, 1)}
	for _, c := range []struct {
		in  []api.Log
		why api.Errno
	}{
		{logs(log("q", bad)), api.ErrName},
		{logs(log("both", many(101))), api.ErrName},
		{logs(log("s"), log("s", bad)), api.ErrName},
		{logs(log("s"), log("s", many(101))), api.ErrName},
		{logs(log("s", append(many(101), bad...))), api.ErrRange},
		{logs(log("s", many(101), bad)), api.ErrRange},
		{logs(log("s", nil, nil, nil, nil, nil, nil, nil, bad)), api.ErrRange},
		{logs(log("s", many(101)), log("r", bad)), api.ErrFull},
		{logs(log("s", bad), log("r", many(101))), api.ErrRange},
		{logs(log("s", many(101)), log("q")), api.ErrFull},
		{logs(log("s", bad), log("s")), api.ErrRange},
		{logs(log("q"), log("s", bad)), api.ErrName},
		{logs(log("r"), log("s", many(101)), log("r")), api.ErrFull},
	} {
		makes(t, two, c.in, c.why)
	}
}

// TestC1LeavesLogs: what is handed in is not written into.
func TestC1LeavesLogs(t *testing.T) {
	in := logs(log("s", times(9, 3, 12), times(4)), log("r", times(8, 8)))
	was := fmt.Sprint(in)
	if _, err := cluster.New(two, in); err != nil || fmt.Sprint(in) != was {
		t.Errorf("New: %v, and of %s there was left %v", err, was, in)
	}
}

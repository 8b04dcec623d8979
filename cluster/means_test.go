package cluster_test

import (
	"fmt"
	"math"
	"slices"
	"strings"
	"testing"

	"streamwright/api"
	"streamwright/cluster"
	"streamwright/value"
)

// TestC8Examples has what the document tells of the whole.
func TestC8Examples(t *testing.T) {
	who := []api.Row{row(3, "a"), row(7, "a"), row(12, "a")}
	const text = "stream s (who text)\nn = s by who in tumble 10 give count() as c\nsink x = n"
	means(t, text, logs(log("s", who)), nil, "x: 9 'a' 2; 19 'a' 1;")
	// The first comes out as soon as no row with a time below 10 can come.
	for at, want := range []string{"x:", "x:", "x:", "x: 9 'a' 2;", "x: 9 'a' 2; 19 'a' 1;"} {
		means(t, text, logs(log("s", who)), []api.Offset{upTo(0, 0, at)}, want)
	}
	const late = "stream s (who text) late 5\nsink x = s"
	means(t, late, logs(log("s", []api.Row{row(20, "a"), row(15, "b"), row(14, "c")})), nil, "x: 15 'b'; 20 'a';")
}

// flows has a stream that goes straight into a sink.
const flows = "stream s (n int) late 5\nsink x = s"

// TestC8Read: rows as far as the offset says, those that are late left out,
// each partition by itself.
func TestC8Read(t *testing.T) {
	in := logs(log("s", times(20, 15, 14, 26), nil, times(3, 20, 4)))
	means(t, flows, in, nil, "x: 3 1; 15 2; 20 1; 20 2; 26 4;")
	for at, want := range []string{"3 1; 20 2;", "3 1; 20 1; 20 2;", "3 1; 15 2; 20 1; 20 2;", "3 1; 15 2; 20 1; 20 2;", "3 1; 15 2; 20 1; 20 2; 26 4;", "3 1; 15 2; 20 1; 20 2; 26 4;"} {
		means(t, flows, in, []api.Offset{upTo(0, 0, at)}, "x: "+want)
	}
	means(t, flows, in, []api.Offset{upTo(0, 2, 1), upTo(0, 0, 1)}, "x: 3 1; 20 1;")
	means(t, flows, in, []api.Offset{upTo(0, 0, 0), upTo(0, 1, 0), upTo(0, 2, 0)}, "x:")
}

// TestC8NoPartitions: a stream without any is at its end.
func TestC8NoPartitions(t *testing.T) {
	const text = "stream s (n int)\nstream o (m int)\nc = s by nothing in tumble 10 give count() as c\nj = s outer join o on n = m in tumble 10\nsink x = c\nsink y = j\nsink z = o"
	for _, in := range [][]api.Log{nil, logs(log("s")), logs(log("o"), log("s")), logs(log("s", nil, nil))} {
		means(t, text, in, nil, "x: y: z:")
	}
	in := logs(log("s", times(3)))
	means(t, text, in, nil, "x: 9 1; y: 9 1 null; z:")
	means(t, text, in, []api.Offset{upTo(0, 0, 1), upTo(1, 0, 0)}, "x: y: z:")
	// A partition without rows still has its end to be read.
	in = append(in, log("o", nil))
	means(t, text, in, nil, "x: 9 1; y: 9 1 null; z:")
	means(t, text, in, []api.Offset{upTo(1, 0, 1)}, "x: 9 1; y: 9 1 null; z:")
	means(t, text, in, []api.Offset{upTo(1, 0, 0)}, "x: 9 1; y: z:")
}

// TestC8Offsets: which offsets are asked, and which of them are none.
func TestC8Offsets(t *testing.T) {
	const text = "stream s (n int)\nw = s where true\nstream r (n int)\nsink x = w\nsink y = r"
	in := logs(log("r", times(2), times(3, 4)), log("s", times(1, 5)))
	const all = "x: 1 1; 5 2; y: 2 1; 3 1; 4 2;"
	far := []int{-1, -2, 7, 16, 17, 1 << 40, math.MaxInt, math.MinInt}
	// Of nodes and partitions that are not there, whatever they say.
	for _, at := range append(far, 0, 1) {
		for _, n := range far {
			means(t, text, in, []api.Offset{upTo(n, 0, at), upTo(0, n, at), upTo(2, n, at), upTo(n, n, at)}, all)
		}
		means(t, text, in, []api.Offset{upTo(1, 0, at), upTo(3, 0, at), upTo(4, 0, at), upTo(0, 1, at), upTo(2, 2, at)}, all)
	}
	// Below 0, or above the rows and the end.
	for _, c := range []struct{ node, part, rows int }{{0, 0, 2}, {2, 0, 1}, {2, 1, 2}} {
		for at := range c.rows + 2 {
			if _, err := cluster.Means(text, in, []api.Offset{upTo(c.node, c.part, at)}); err != nil {
				t.Errorf("%v: %d: %v", c, at, err)
			}
		}
		for _, at := range append(far, c.rows+2, c.rows+3) {
			faulty(t, text, in, []api.Offset{upTo(c.node, c.part, at)}, api.ErrRange)
			faulty(t, text, in, []api.Offset{upTo(9, 0, 0), upTo(c.node, c.part, at), upTo(c.node, c.part, 0)}, api.ErrRange)
			// Only the first one that names them counts.
			means(t, text, in, []api.Offset{upTo(c.node, c.part, c.rows+1), upTo(c.node, c.part, at)}, all)
		}
	}
	means(t, text, in, []api.Offset{upTo(2, 1, 1), upTo(0, 0, 1), upTo(2, 1, 0), upTo(0, 0, 3)}, "x: 1 1; y: 2 1; 3 1;")
	// A stream of which there is no log has no partition to be named.
	means(t, text, nil, []api.Offset{upTo(0, 0, 5), upTo(2, 0, -5)}, "x: y:")
}

func TestC8AtOnce(t *testing.T) {
	text := lines(
		"stream s (n int, w text)",
		"big = s where n > 1",
		"turned = s select w ++ '!' as w, n * 2 as n",
		"all = s union big, s",
		"sink a = big", "sink b = turned", "sink c = all", "sink d = s", "sink e = s")
	in := logs(log("s", []api.Row{row(4, 2, "q"), row(4, 1, "r"), row(5, nil, "t")}, []api.Row{row(4, 2, "q")}))
	means(t, text, in, nil, "a: 4 2 'q'; 4 2 'q'; "+
		"b: 4 'q!' 4; 4 'q!' 4; 4 'r!' 2; 5 't!' null; "+
		"c: 4 1 'r'; 4 1 'r'; 4 2 'q'; 4 2 'q'; 4 2 'q'; 4 2 'q'; 4 2 'q'; 4 2 'q'; 5 null 't'; 5 null 't'; "+
		"d: 4 1 'r'; 4 2 'q'; 4 2 'q'; 5 null 't'; "+
		"e: 4 1 'r'; 4 2 'q'; 4 2 'q'; 5 null 't';")
}

func TestC8Windows(t *testing.T) {
	with := func(windows string) string {
		return "stream s (n int) late 3\nk = s by nothing in " + windows + " give count() as c, sum(n) as s\nsink x = k"
	}
	in := logs(log("s", times(1, 5, 9, 18), times(2, 25)))
	for windows, want := range map[string]string{
		"tumble 10":        "9 4 7; 19 1 4; 29 1 2;",
		"slide 10 every 5": "4 2 2; 9 4 7; 14 2 5; 19 1 4; 24 1 4; 29 1 2; 34 1 2;",
		"session 4":        "8 3 4; 12 1 3; 21 1 4; 28 1 2;",
		"session 8":        "16 4 7; 32 2 6;",
		"whole":            "1099511627776 6 13;",
		"slide 4 every 3":  "3 2 2; 6 1 2; 9 1 3; 12 1 3; 18 1 4; 21 1 4; 27 1 2;",
		"tumble 1048576":   "1048575 6 13;",
		"session 1":        "1 1 1; 2 1 1; 5 1 2; 9 1 3; 18 1 4; 25 1 2;",
		"slide 3 every 3":  "2 2 2; 5 1 2; 11 1 3; 20 1 4; 26 1 2;",
	} {
		means(t, with(windows), in, nil, "x: "+want)
	}
	// The time is the least of the partitions': 15 of the first one, 22 of
	// the second one.
	read := []api.Offset{upTo(0, 0, 4), upTo(0, 1, 2)}
	for windows, want := range map[string]string{
		"tumble 10": "x: 9 4 7;", "tumble 15": "x: 14 4 7;", "tumble 16": "x:",
		"slide 10 every 5": "x: 4 2 2; 9 4 7; 14 2 5;",
		"session 4":        "x: 8 3 4; 12 1 3;", "session 6": "x: 14 4 7;", "session 7": "x:", "whole": "x:",
	} {
		means(t, with(windows), in, read, want)
	}
}

func TestC8Joins(t *testing.T) {
	text := func(outer string) string {
		return "stream l (a int, p text)\nstream r (q text, b int)\nj = l " + outer + " join r on a = b in tumble 10\nsink x = j"
	}
	in := logs(
		log("r", []api.Row{row(1, "u", 1), row(4, "v", 1), row(14, "w", 2), row(3, "z", 3)}),
		log("l", []api.Row{row(9, 1, "c"), row(2, 1, "d")}, []api.Row{row(8, 2, "e"), row(15, 2, "f"), row(17, nil, "g")}))
	const met = "9 1 'c' 'u' 1; 9 1 'c' 'v' 1; "
	means(t, text(""), in, nil, "x: "+met+"19 2 'f' 'w' 2;")
	means(t, text("outer"), in, nil, "x: "+met+"9 2 'e' null null; 19 null 'g' null null; 19 2 'f' 'w' 2;")
	// The row of time 2 came too late. What the other input still has to come
	// holds the windows back.
	means(t, text("outer"), in, []api.Offset{upTo(1, 0, 3)}, "x: "+met+"9 2 'e' null null;")
	means(t, text("outer"), in, []api.Offset{upTo(1, 0, 2)}, "x:")
	means(t, text("outer"), in, []api.Offset{upTo(0, 0, 1)}, "x:")
	// One node can be both inputs.
	const both = "stream s (n int)\nt = s select n as m\nj = s join t on n = m in whole\nsink x = j"
	means(t, both, logs(log("s", []api.Row{row(1, 7), row(2, 7)})), nil, "x: 1099511627776 7 7; 1099511627776 7 7; 1099511627776 7 7; 1099511627776 7 7;")
	const none = "stream s (n int)\nj = s outer join s on n = n in whole"
	makes(t, none, nil, api.ErrName)
}

// TestC8Times: a time goes through all kinds of nodes, to windows over windows.
func TestC8Times(t *testing.T) {
	text := lines(
		"stream s (n int)", "stream r (n int)",
		"few = s where n > 100", // nothing comes of it, but its time goes on
		"kept = r select n as n",
		"u = kept union few",
		"five = u by n in tumble 5",
		"ten = five by nothing in tumble 10 give count() as c",
		"big = ten where c > 1",
		"sink x = five", "sink y = ten", "sink z = big")
	in := logs(log("s", times(3, 12, 40)), log("r", times(1, 6, 8, 14, 33)))
	means(t, text, in, nil, "x: 4 1; 9 2; 9 3; 14 4; 34 5; y: 9 3; 19 1; 39 1; z: 9 3;")
	for at, want := range []string{
		"x: y: z:", "x: y: z:", "x: 4 1; 9 2; 9 3; y: 9 3; z: 9 3;",
		"x: 4 1; 9 2; 9 3; 14 4; 34 5; y: 9 3; 19 1; 39 1; z: 9 3;",
		"x: 4 1; 9 2; 9 3; 14 4; 34 5; y: 9 3; 19 1; 39 1; z: 9 3;",
	} {
		means(t, text, in, []api.Offset{upTo(0, 0, at)}, want)
	}
}

// TestC8TheEndOfTime: what ends just at Forever comes out, what ends behind
// it does not.
func TestC8TheEndOfTime(t *testing.T) {
	with := func(windows string) string {
		return "stream s (n int)\nk = s by nothing in " + windows + " give sum(n) as s\nk2 = k by s in tumble 1\nsink x = k\nsink y = k2"
	}
	in := logs(log("s", times(0, api.MaxTime)))
	means(t, with("tumble 1"), in, nil, "x: 0 1; 1099511627776 2; y: 0 1; 1099511627776 2;")
	means(t, with("session 1"), in, nil, "x: 0 1; 1099511627776 2; y: 0 1; 1099511627776 2;")
	means(t, with("whole"), in, nil, "x: 1099511627776 3; y: 1099511627776 3;")
	means(t, with("tumble 2"), in, nil, "x: 1 1; y: 1 1;")
	means(t, with("session 2"), in, nil, "x: 1 1; y: 1 1;")
}

// TestC8Sinks: each in the order of the job, with its name, also without rows.
func TestC8Sinks(t *testing.T) {
	means(t, "", nil, nil, "")
	means(t, "stream s (n int)", logs(log("s", times(1))), nil, "")
	means(t, "stream s (n int)\nsink z = s\nw = s where n > 9\nsink b = w\nsink a = s\nstream r (n int)\nsink c = r", logs(log("s", times(8, 9, 9))), nil,
		"z: 8 1; 9 2; 9 3; b: a: 8 1; 9 2; 9 3; c:")
}

// TestC8Memory: what comes out is the caller's, and what was handed in stays.
func TestC8Memory(t *testing.T) {
	text := lines(
		"stream s (n int, w text)",
		"u = s union s", "v = s select w as x, n as m", "k = s by n, w in whole", "j = v outer join k on x = w in whole",
		"sink a = s", "sink b = s", "sink c = u", "sink d = v", "sink e = k", "sink f = j", "sink g = j")
	in := logs(log("s", []api.Row{row(9, 2, "q"), row(3, 1, "r"), row(9, 1, "r")}, []api.Row{row(4, 2, "q")}))
	offsets := []api.Offset{upTo(0, 1, 2), upTo(0, 0, 4)}
	was := fmt.Sprint(in, offsets)
	l, err := cluster.Means(text, in, offsets)
	again, also := cluster.Means(text, in, offsets)
	if err != nil || also != nil || shown(l) != shown(again) {
		t.Errorf("%v, %v, %s, and then %s", err, also, shown(l), shown(again))
	}
	if fmt.Sprint(in, offsets) != was {
		t.Errorf("of %s there was left %v %v", was, in, offsets)
	}
	lists := slices.Clone(in[0].Parts)
	for _, s := range slices.Concat(l, again) {
		lists = append(lists, s.Rows)
	}
	apart(t, "Means", lists...)
}

// TestC8Most: jobs that weigh as much as they may, over as many rows as there
// can be.
func TestC8Most(t *testing.T) {
	long := strings.Repeat("w", api.MaxText)
	var l, r []api.Row
	for range api.MaxRows {
		l, r = append(l, row(1, long, 1)), append(r, row(1, long, 2))
	}
	text := "stream l (a text, n int)\nstream r (b text, m int)\nj = l join r on a = b in whole\nd = j union j\n"
	from := "d"
	for i := range 4 {
		to := fmt.Sprint("m", i)
		text += to + " = " + from + " select cut(" + strings.Repeat("a ++ ", 20) + "b, 60) as a, b as b, n + " + strings.Repeat("m - m + ", 10) + "1 as n, m as m\n"
		from = to
	}
	text += "k = " + from + " by a, b in whole give count() as c, sum(n) as s, distinct(a) as d\nsink x = k"
	means(t, text, logs(log("l", l), log("r", r)), nil, "x: 1099511627776 '"+long+"' '"+long+"' 20000 100000 1;")
}

// TestC8Sorted: rows come out in their order, the same ones side by side.
func TestC8Sorted(t *testing.T) {
	l, err := cluster.Means("stream s (n int, w text) late 100\nu = s union s\nsink x = u",
		logs(log("s", []api.Row{row(9, 2, "q"), row(3, 1, "r"), row(9, nil, "r"), row(9, 2, nil), row(9, 10, "q")}, []api.Row{row(9, 2, "q"), row(9, -5, "q")})), nil)
	if err != nil || len(l) != 1 || len(l[0].Rows) != 14 || !slices.IsSortedFunc(l[0].Rows, value.CompareRows) {
		t.Errorf("%v, %s", err, shown(l))
	}
}

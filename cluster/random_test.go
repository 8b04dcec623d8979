package cluster_test

import (
	"fmt"
	"math/rand"
	"slices"
	"strings"
	"testing"

	"streamwright/agg"
	"streamwright/api"
	"streamwright/cluster"
	"streamwright/expr"
	"streamwright/job"
	"streamwright/plain"
	"streamwright/value"
)

// The second reading of C8: nothing but the words of the chapters, each
// window that there is looked at by itself.

// stream is what comes out of a node.
type stream struct {
	rows []api.Row
	time int64
}

// readSlowly reads a partition (S3).
func readSlowly(rows []api.Row, bound int64, at int) stream {
	s := stream{time: api.Never}
	for _, r := range rows[:min(at, len(rows))] {
		if r.Time >= s.time {
			s.rows = append(s.rows, r)
			s.time = max(s.time, r.Time-bound)
		}
	}
	if at > len(rows) {
		s.time = api.Forever
	}
	return s
}

// windowsAround gives all that a time is in (T2).
func windowsAround(w api.Windows, t int64) []api.Window {
	step := w.Step
	switch w.Kind {
	case api.Whole:
		return []api.Window{{From: 0, To: api.Forever}}
	case api.Session:
		return []api.Window{{From: t, To: t + w.Size}}
	case api.Tumble:
		step = w.Size
	}
	var l []api.Window
	for from := t - w.Size + 1; from <= t; from++ {
		if from%step == 0 {
			l = append(l, api.Window{From: from, To: from + w.Size})
		}
	}
	return l
}

// mergedSlowly joins two that meet, until none do (T3).
func mergedSlowly(l []api.Window) []api.Window {
	for i := range l {
		for k := range i {
			if l[k].From < l[i].To && l[i].From < l[k].To {
				l[k] = api.Window{From: min(l[i].From, l[k].From), To: max(l[i].To, l[k].To)}
				return mergedSlowly(slices.Delete(l, i, i+1))
			}
		}
	}
	return l
}

// keyed gives the rows that have a key.
func keyed(rows []api.Row, places []int, key string) []api.Row {
	var l []api.Row
	for _, r := range rows {
		if keyOf(r, places) == key {
			l = append(l, r)
		}
	}
	return l
}

func keyOf(r api.Row, places []int) string {
	s := ""
	for _, at := range places {
		s += value.Show(r.Values[at]) + ","
	}
	return s
}

// within gives the rows whose times are in a window.
func within(rows []api.Row, w api.Window) []api.Row {
	var l []api.Row
	for _, r := range rows {
		if w.From <= r.Time && r.Time < w.To {
			l = append(l, r)
		}
	}
	return l
}

// inWindows gives what comes of all windows of all keys that end at a time or
// ahead of it (O4).
func inWindows(o api.Op, inputs []stream, time int64) []api.Row {
	places := [][]int{o.Keys, o.Others}
	keys := map[string]bool{}
	for i, in := range inputs {
		for _, r := range in.rows {
			keys[keyOf(r, places[i])] = true
		}
	}
	var out []api.Row
	for key := range keys {
		var own [2][]api.Row
		var windows []api.Window
		for i, in := range inputs {
			own[i] = keyed(in.rows, places[i], key)
			for _, r := range own[i] {
				windows = append(windows, windowsAround(o.Windows, r.Time)...)
			}
		}
		if o.Windows.Kind == api.Session {
			windows = mergedSlowly(windows)
		}
		met := map[api.Window]bool{}
		for _, w := range windows {
			if w.To <= time && !met[w] {
				met[w] = true
				out = append(out, ofWindow(o, w, within(own[0], w), within(own[1], w))...)
			}
		}
	}
	return out
}

// ofWindow gives what comes of a window of a key.
func ofWindow(o api.Op, w api.Window, first, second []api.Row) []api.Row {
	time := min(w.To-1, api.MaxTime)
	if o.Kind == api.OpWindow {
		one := api.Row{Time: time}
		for _, at := range o.Keys {
			one.Values = append(one.Values, first[0].Values[at])
		}
		for _, a := range o.Aggs {
			var l []api.Timed
			for _, r := range first {
				l = append(l, api.Timed{Time: r.Time})
				if a.At >= 0 {
					l[len(l)-1].Value = r.Values[a.At]
				}
			}
			v, _ := agg.Fold(a.Kind, l)
			one.Values = append(one.Values, v)
		}
		return []api.Row{one}
	}
	if o.Outer && len(second) == 0 {
		second = []api.Row{{Values: make([]api.Value, len(o.Right))}}
	}
	var out []api.Row
	for _, a := range first {
		for _, b := range second {
			out = append(out, api.Row{Time: time, Values: slices.Concat(a.Values, b.Values)})
		}
	}
	return out
}

// atOnce gives what comes of a row by itself (O3).
func atOnce(o api.Op, r api.Row) []api.Row {
	var l []api.Value
	for _, text := range o.Exprs {
		v, _ := expr.Eval(text, o.Columns, r.Values)
		l = append(l, v)
	}
	switch {
	case o.Kind == api.OpMap:
		return []api.Row{{Time: r.Time, Values: l}}
	case o.Kind == api.OpWhere && l[0] != value.Truth(true):
		return nil
	}
	return []api.Row{r}
}

// offsetIn gives the first offset of a partition, or its end.
func offsetIn(offsets []api.Offset, node, part, end int) int {
	for _, o := range offsets {
		if o.Node == node && o.Part == part {
			return o.At
		}
	}
	return end
}

// meansSlowly gives what a job that is one comes to; false: an offset is none.
func meansSlowly(j api.Job, in []api.Log, offsets []api.Offset) ([]api.Sunk, bool) {
	var all []stream
	var out []api.Sunk
	for at, n := range j.Nodes {
		s := stream{time: api.Forever}
		for _, l := range in {
			for part, rows := range l.Parts {
				if l.Stream != n.Name {
					continue
				}
				end := len(rows) + 1
				upTo := offsetIn(offsets, at, part, end)
				if upTo < 0 || upTo > end {
					return nil, false
				}
				one := readSlowly(rows, n.Bound, upTo)
				s = stream{slices.Concat(s.rows, one.rows), min(s.time, one.time)}
			}
		}
		var inputs []stream
		for _, from := range n.Inputs {
			inputs = append(inputs, all[from])
			s.time = min(s.time, all[from].time)
		}
		switch n.Op.Kind {
		case api.OpWindow, api.OpJoin:
			s.rows = inWindows(n.Op, inputs, s.time)
		default:
			for _, one := range inputs {
				for _, r := range one.rows {
					s.rows = append(s.rows, atOnce(n.Op, r)...)
				}
			}
		}
		all = append(all, s)
		if n.Op.Kind == api.OpSink {
			out = append(out, api.Sunk{Sink: n.Name, Rows: value.Sorted(s.rows)})
		}
	}
	return out, true
}

// maker makes jobs, what comes in, and offsets.
type maker struct {
	*rand.Rand
}

func pick[T any](m maker, l ...T) T { return l[m.Intn(len(l))] }

// windows gives some, of sizes that are not far from those of times.
func (m maker) windows() string {
	size := 1 + m.Intn(20)
	return pick(m, fmt.Sprint("in tumble ", size), fmt.Sprint("in slide ", size, " every ", size-m.Intn(size/2+1)), fmt.Sprint("in session ", size), "in whole")
}

// line proposes one behind nodes, of which there is a stream; it may be none.
func (m maker) line(nodes []api.Node) string {
	name := fmt.Sprint("n", len(nodes))
	from, other := pick(m, nodes...), pick(m, nodes...)
	column, second := columnOf(m, from), columnOf(m, from)
	start := name + " = " + from.Name + " "
	switch m.Intn(11) {
	case 0:
		return m.stream(name)
	case 1:
		return start + "where " + pick(m, column+" > 1", column+" <> 'p'", "isnull("+column+")", "not isnull("+column+")")
	case 2:
		turned := pick(m, column, column+" + 1", column+" ++ 'q'", "coalesce("+column+", 0)")
		return start + "select " + turned + " as e" + name + ", " + second + " as f" + name
	case 3, 4:
		fold := pick(m, "", " give count() as g", " give sum("+column+") as g, last("+second+") as h", " give min("+column+") as g, distinct("+second+") as h", " give max("+column+") as g, first("+second+") as h")
		return start + "by " + pick(m, "nothing", column, second, column+", "+second) + " " + m.windows() + fold
	case 5:
		return start + "union " + other.Name + pick(m, "", ", "+from.Name)
	}
	return start + pick(m, "", "outer ") + "join " + other.Name + " on " + column + " = " + columnOf(m, other) + " " + m.windows()
}

// stream gives one whose columns others have, too, or have not.
func (m maker) stream(name string) string {
	cols := pick(m, "a int, b text", "a int, b text", "a int, c bool", "i"+name+" int", "i"+name+" int, t"+name+" text")
	return "stream " + name + " (" + cols + ")" + pick(m, "", fmt.Sprint(" late ", m.Intn(20)))
}

// columnOf gives the name of one of a node's columns, if there is one.
func columnOf(m maker, n api.Node) string {
	if len(n.Columns) == 0 {
		return "none"
	}
	return pick(m, n.Columns...).Name
}

// text makes a job that is one, with a sink for its last node, and for some
// others.
func (m maker) text() (string, api.Job) {
	text := m.stream("n0") + "\n"
	j, _, _ := job.Parse(text)
	for most := 1 + m.Intn(api.MaxNodes/2); len(j.Nodes) < most; {
		longer := text + m.line(j.Nodes) + "\n"
		if one, _, err := job.Parse(longer); err == nil {
			text, j = longer, one
		}
	}
	for at, n := range j.Nodes {
		if at == len(j.Nodes)-1 || m.Intn(4) == 0 {
			text += "sink s" + n.Name + " = " + n.Name + "\n"
		}
	}
	j, _, _ = job.Parse(text)
	return text, j
}

// rows gives some that fit columns, of times that mostly grow.
func (m maker) rows(cols []api.Column) []api.Row {
	var l []api.Row
	time := int64(m.Intn(30))
	if m.Intn(20) == 0 {
		time = api.MaxTime - 40
	}
	for range m.Intn(9) {
		time = min(max(0, time+int64(m.Intn(14)-4)), api.MaxTime)
		r := api.Row{Time: time}
		for _, c := range cols {
			v := []api.Value{{}, value.Of(int64(m.Intn(4))), value.Truth(m.Intn(2) == 0), value.Words(pick(m, "p", "q", ""))}[c.Kind]
			if m.Intn(8) == 0 {
				v = api.Value{}
			}
			r.Values = append(r.Values, v)
		}
		l = append(l, r)
	}
	return l
}

// logs gives what comes in by a job's streams.
func (m maker) logs(j api.Job) []api.Log {
	var l []api.Log
	for _, n := range j.Nodes {
		if n.Op.Kind != api.OpSource || m.Intn(10) == 0 {
			continue
		}
		one := api.Log{Stream: n.Name}
		for range m.Intn(4) {
			one.Parts = append(one.Parts, m.rows(n.Columns))
		}
		l = append(l, one)
	}
	m.Shuffle(len(l), func(i, k int) { l[i], l[k] = l[k], l[i] })
	return l
}

// offsets gives some, of partitions that are there and of others, in any
// order; few are none of a place.
func (m maker) offsets(j api.Job, in []api.Log) []api.Offset {
	var l []api.Offset
	for at, n := range j.Nodes {
		for _, one := range in {
			for part, rows := range one.Parts {
				if one.Stream == n.Name && m.Intn(5) > 0 {
					l = append(l, upTo(at, part, m.Intn(len(rows)+2)))
				}
				if m.Intn(100) == 0 {
					l = append(l, upTo(at, part, m.Intn(len(rows)+5)-1))
				}
			}
		}
	}
	m.Shuffle(len(l), func(i, k int) { l[i], l[k] = l[k], l[i] })
	return l
}

// TestC8AtRandom holds Means against the second reading.
func TestC8AtRandom(t *testing.T) {
	came, refused := map[int]int{}, 0
	for seed := range int64(7000) {
		m := maker{rand.New(rand.NewSource(seed))}
		text, j := m.text()
		in := m.logs(j)
		for range 4 {
			offsets := m.offsets(j, in)
			got, err := cluster.Means(text, in, offsets)
			want, ok := meansSlowly(j, in, offsets)
			if ok != (err == nil) || !ok && plain.Told(err) != api.ErrRange || shown(got) != shown(want) {
				t.Fatalf("%d: Means(%q, %v, %v): %v,\n%s, want %v,\n%s", seed, text, in, offsets, err, shown(got), ok, shown(want))
			}
			if !ok {
				refused++
			}
			for i, s := range got {
				came[j.Nodes[sinks(j)[i].Inputs[0]].Op.Kind] += len(s.Rows)
			}
		}
	}
	for kind := api.OpSource; kind <= api.OpUnion; kind++ {
		if came[kind] < 1000 {
			t.Errorf("of kind %d only %d rows came out", kind, came[kind])
		}
	}
	if refused < 50 {
		t.Errorf("only %d were refused", refused)
	}
}

func sinks(j api.Job) []api.Node {
	return slices.DeleteFunc(slices.Clone(j.Nodes), func(n api.Node) bool { return n.Op.Kind != api.OpSink })
}

// TestC8Grows: what a job means stays as more is read, and other rows come
// to it.
func TestC8Grows(t *testing.T) {
	grew := 0
	for seed := range int64(1500) {
		m := maker{rand.New(rand.NewSource(-1 - seed))}
		text, j := m.text()
		in := m.logs(j)
		places := map[string]int{}
		for at, n := range j.Nodes {
			places[n.Name] = at
		}
		var offsets []api.Offset
		for _, l := range in {
			for part := range l.Parts {
				offsets = append(offsets, upTo(places[l.Stream], part, 0))
			}
		}
		var before []api.Sunk
		for {
			got, err := cluster.Means(text, in, offsets)
			if err != nil {
				t.Fatalf("%d: Means(%q, %v, %v): %v", seed, text, in, offsets, err)
			}
			for i, s := range before {
				if !among(s.Rows, got[i].Rows) {
					t.Fatalf("%d: Means(%q, %v, %v):\n%s, and before\n%s", seed, text, in, offsets, shown(got), shown(before))
				}
				grew += len(got[i].Rows) - len(s.Rows)
			}
			before = got
			if !m.further(offsets, in, places) {
				break
			}
		}
		if all, err := cluster.Means(text, in, nil); err != nil || shown(all) != shown(before) {
			t.Fatalf("%d: Means(%q, %v): %v, %s, want %s", seed, text, in, err, shown(all), shown(before))
		}
	}
	if grew < 10000 {
		t.Errorf("only %d rows came", grew)
	}
}

// further reads one more of a partition; false: all are at their ends.
func (m maker) further(offsets []api.Offset, in []api.Log, places map[string]int) bool {
	for _, i := range m.Perm(len(offsets)) {
		for _, l := range in {
			if o := &offsets[i]; places[l.Stream] == o.Node && o.At <= len(l.Parts[o.Part]) {
				o.At++
				return true
			}
		}
	}
	return false
}

// among tells whether rows are among others, each used once; both are in order.
func among(rows, others []api.Row) bool {
	for _, r := range others {
		if len(rows) > 0 && value.CompareRows(rows[0], r) == 0 {
			rows = rows[1:]
		}
	}
	return len(rows) == 0
}

// TestC1AtRandom: of a log in which one thing is wrong, or several, the one
// named first is told.
func TestC1AtRandom(t *testing.T) {
	told := map[api.Errno]int{}
	for seed := range int64(4000) {
		m := maker{rand.New(rand.NewSource(seed))}
		text, j := m.text()
		in := m.logs(j)
		want := api.OK
		for i := range in {
			why := api.OK
			if m.Intn(4) == 0 {
				in[i].Parts = append(in[i].Parts, make([][]api.Row, 7)...)
				why = api.ErrFull
			}
			if m.Intn(4) == 0 {
				at := m.Intn(len(in[i].Parts) + 1)
				in[i].Parts = slices.Insert(in[i].Parts, at, []api.Row{{Time: 1, Values: make([]api.Value, 9)}})
				why = api.ErrRange
			}
			if m.Intn(4) == 0 {
				in[i].Stream = pick(m, "", "q", strings.ToUpper(in[i].Stream), sinks(j)[0].Name)
				why = api.ErrName
			}
			if want == api.OK {
				want = why
			}
		}
		makes(t, text, in, want)
		told[want]++
		if t.Failed() {
			t.Fatal(seed)
		}
	}
	for _, why := range []api.Errno{api.OK, api.ErrName, api.ErrRange, api.ErrFull} {
		if told[why] < 100 {
			t.Errorf("%v was met only %d times", why, told[why])
		}
	}
}

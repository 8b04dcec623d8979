package cluster_test

import (
	"cmp"
	"fmt"
	"maps"
	"math/rand"
	"slices"
	"strings"
	"testing"

	"streamwright/api"
	"streamwright/job"
	"streamwright/op"
	"streamwright/spread"
	"streamwright/value"
)

// The second reading of C2 to C7: a cluster by the words of the chapter, with
// gates, partitions, files and transactions of its own.

// note is a message to the chief.
type note struct {
	task, mark int
	offsets    []api.Offset
	pieces     []api.Held
}

// leaf is a checkpoint that was written.
type leaf struct {
	api.Check
	loose bool
}

// lot has the rows of a transaction.
type lot struct {
	mark, task int
	sink       string
	rows       []api.Row
}

// slow is a cluster.
type slow struct {
	job    api.Job
	parts  map[int][][]api.Row // of streams
	leaves []leaf
	lots   []lot
	seen   map[string][]api.Row

	up                 bool
	g                  api.Graph
	at                 map[[2]int]int // how far a partition (its node, its number) was read
	told               map[int]int64  // by tasks: the time that was sent last, or went on
	asked              map[int][]int
	queues             [][]api.Elem
	times              []int64 // of channels
	marks              []int   // with which channels wait
	ops                map[int]*op.Operator
	held               map[int][]api.Row
	notes, heard       []note
	begun, going, done int
}

func newSlow(j api.Job, in []api.Log) *slow {
	s := &slow{job: j, parts: map[int][][]api.Row{}, seen: map[string][]api.Row{}}
	for at, n := range j.Nodes {
		for _, l := range in {
			if l.Stream == n.Name {
				s.parts[at] = l.Parts
			}
		}
	}
	return s
}

// place tells the node of a task, and its number there; false: there is none.
func (s *slow) place(task int) (node, number int, ok bool) {
	for node, n := range s.g.Par {
		if task >= 0 && task < n {
			return node, task, true
		}
		task -= n
	}
	return 0, 0, false
}

func (s *slow) tasks() int {
	n := 0
	for _, one := range s.g.Par {
		n += one
	}
	return n
}

// send puts an element into the channels of a task.
func (s *slow) send(task int, e api.Elem) {
	node, number, _ := s.place(task)
	for at, c := range s.g.Channels {
		if s.g.Edges[c.Edge].From != node || c.From != number {
			continue
		}
		if e.Kind != api.ElemRow || spread.Target(s.g, c.Edge, number, e.Row) == c.To {
			s.queues[at] = append(s.queues[at], e)
		}
	}
}

// newestLeaf gives the newest checkpoint.
func (s *slow) newestLeaf() api.Check {
	var k api.Check
	for _, one := range s.leaves {
		if one.Mark > k.Mark {
			k = one.Check
		}
	}
	return k
}

func (s *slow) start(par []int) {
	g, err := spread.Expand(s.job, par)
	if err != nil {
		return
	}
	k := s.newestLeaf()
	s.leaves = slices.DeleteFunc(s.leaves, func(one leaf) bool { return one.Mark != k.Mark })
	for _, one := range s.lots {
		if one.mark <= k.Mark {
			s.seen[one.sink] = append(s.seen[one.sink], one.rows...)
		}
	}
	*s = slow{job: s.job, parts: s.parts, leaves: s.leaves, seen: s.seen, up: true, g: g, begun: k.Mark, done: k.Mark}
	s.at, s.told, s.asked = map[[2]int]int{}, map[int]int64{}, map[int][]int{}
	s.ops, s.held = map[int]*op.Operator{}, map[int][]api.Row{}
	s.queues, s.marks = make([][]api.Elem, len(g.Channels)), make([]int, len(g.Channels))
	s.times = slices.Repeat([]int64{api.Never}, len(g.Channels))
	for _, o := range k.Offsets {
		s.at[[2]int{o.Node, o.Part}] = o.At
	}
	for task := range s.tasks() {
		s.told[task] = api.Never
		node, number, _ := s.place(task)
		lo, hi := spread.Range(number, g.Par[node])
		s.ops[task], _ = op.New(s.job.Nodes[node].Op, lo, hi)
		var l []api.Piece
		for _, h := range k.Pieces {
			if h.Node == node {
				l = append(l, h.Piece)
			}
		}
		if s.ops[task] != nil && s.ops[task].Load(l) != nil {
			panic("Load")
		}
	}
}

// own gives the partitions of a stream's task.
func (s *slow) own(task int) []api.Offset {
	var l []api.Offset
	node, number, _ := s.place(task)
	for part := range s.parts[node] {
		if part%s.g.Par[node] == number {
			l = append(l, api.Offset{Node: node, Part: part, At: s.at[[2]int{node, part}]})
		}
	}
	return l
}

// read is what was read of a partition.
func (s *slow) read(o api.Offset) stream {
	return readSlowly(s.parts[o.Node][o.Part], s.job.Nodes[o.Node].Bound, o.At)
}

func (s *slow) tellTime(task int) {
	least := int64(api.Forever)
	for _, o := range s.own(task) {
		least = min(least, s.read(o).time)
	}
	if least > s.told[task] {
		s.told[task] = least
		s.send(task, api.Elem{Kind: api.ElemTime, Time: least})
	}
}

// feed lets a stream's task go on.
func (s *slow) feed(task, choice int) {
	if len(s.asked[task]) > 0 {
		mark := s.asked[task][0]
		s.asked[task] = s.asked[task][1:]
		s.tellTime(task)
		s.send(task, api.Elem{Kind: api.ElemMark, Mark: mark})
		s.notes = append(s.notes, note{task: task, mark: mark, offsets: s.own(task)})
		return
	}
	left := slices.DeleteFunc(s.own(task), func(o api.Offset) bool { return o.At > len(s.parts[o.Node][o.Part]) })
	if len(left) > 0 {
		o := left[choice%len(left)]
		before := len(s.read(o).rows)
		s.at[[2]int{o.Node, o.Part}]++
		o.At++
		for _, r := range s.read(o).rows[before:] {
			s.send(task, api.Elem{Kind: api.ElemRow, Row: r})
		}
	}
	s.tellTime(task)
}

// work lets another task go on.
func (s *slow) work(task, choice int) {
	node, number, _ := s.place(task)
	var own, ready []int
	for at, c := range s.g.Channels {
		if s.g.Edges[c.Edge].To == node && c.To == number {
			own = append(own, at)
			if s.marks[at] == 0 && len(s.queues[at]) > 0 {
				ready = append(ready, at)
			}
		}
	}
	if len(ready) == 0 {
		return
	}
	at := ready[choice%len(ready)]
	e := s.queues[at][0]
	s.queues[at] = s.queues[at][1:]
	switch e.Kind {
	case api.ElemRow:
		s.give(task, must(s.ops[task].Row(s.g.Edges[s.g.Channels[at].Edge].Input, e.Row)))
	case api.ElemTime:
		s.times[at] = e.Time
		least := int64(api.Forever)
		for _, one := range own {
			least = min(least, s.times[one])
		}
		if least > s.told[task] {
			s.told[task] = least
			s.give(task, must(s.ops[task].Time(least)))
			s.send(task, api.Elem{Kind: api.ElemTime, Time: least})
		}
	case api.ElemMark:
		s.marks[at] = e.Mark
		s.through(task, own, e.Mark)
	}
}

// must gives what nothing was wrong with.
func must(rows []api.Row, err error) []api.Row {
	if err != nil {
		panic(err)
	}
	return rows
}

// through lets a mark come through a task, if all its channels wait with it.
func (s *slow) through(task int, own []int, mark int) {
	for _, at := range own {
		if s.marks[at] != mark {
			return
		}
	}
	for _, at := range own {
		s.marks[at] = 0
	}
	s.send(task, api.Elem{Kind: api.ElemMark, Mark: mark})
	node, number, _ := s.place(task)
	if n := s.job.Nodes[node]; n.Op.Kind == api.OpSink {
		s.lots = append(s.lots, lot{mark, number, n.Name, s.held[task]})
		s.held[task] = nil
	}
	one := note{task: task, mark: mark}
	for _, p := range s.ops[task].Save() {
		one.pieces = append(one.pieces, api.Held{Node: node, Piece: p})
	}
	s.notes = append(s.notes, one)
}

// give sends rows, or holds them.
func (s *slow) give(task int, rows []api.Row) {
	node, _, _ := s.place(task)
	if s.job.Nodes[node].Op.Kind == api.OpSink {
		s.held[task] = append(s.held[task], rows...)
		return
	}
	for _, r := range rows {
		s.send(task, api.Elem{Kind: api.ElemRow, Row: r})
	}
}

func (s *slow) hear(at int) {
	one := s.notes[at]
	s.notes = slices.Delete(s.notes, at, at+1)
	if one.mark != s.going {
		return
	}
	s.heard = append(s.heard, one)
	if len(s.heard) < s.tasks() {
		return
	}
	k := api.Check{Mark: s.going}
	slices.SortFunc(s.heard, func(a, b note) int { return cmp.Compare(a.task, b.task) })
	for _, one := range s.heard {
		k.Offsets = append(k.Offsets, one.offsets...)
		k.Pieces = append(k.Pieces, one.pieces...)
	}
	s.leaves = append(s.leaves, leaf{k, true})
	s.going, s.heard = 0, nil
}

// tell lets a sink's task commit.
func (s *slow) tell(at int) {
	for task := range s.tasks() {
		node, number, _ := s.place(task)
		n := s.job.Nodes[node]
		if n.Op.Kind != api.OpSink {
			continue
		}
		if at == 0 {
			s.lots = slices.DeleteFunc(s.lots, func(one lot) bool {
				own := one.sink == n.Name && one.task == number && one.mark <= s.done
				if own {
					s.seen[n.Name] = append(s.seen[n.Name], one.rows...)
				}
				return own
			})
		}
		at--
	}
}

// crash loses what is not for good.
func (s *slow) crash(stay int) {
	s.leaves = slices.DeleteFunc(s.leaves, func(one leaf) bool {
		if one.loose {
			stay--
		}
		return one.loose && stay < 0
	})
	for i := range s.leaves {
		s.leaves[i].loose = false
	}
	*s = slow{job: s.job, parts: s.parts, leaves: s.leaves, lots: s.lots, seen: s.seen}
}

// do does an act.
func (s *slow) do(a api.Act) {
	node, _, isTask := s.place(a.A)
	isNote := a.A >= 0 && a.A < len(s.notes)
	switch {
	case !s.up:
		if a.Kind == api.ActStart {
			s.start(a.Par)
		}
	case a.Kind == api.ActRun && isTask && a.B >= 0 && s.job.Nodes[node].Op.Kind == api.OpSource:
		s.feed(a.A, a.B)
	case a.Kind == api.ActRun && isTask && a.B >= 0:
		s.work(a.A, a.B)
	case a.Kind == api.ActMark:
		s.begun++
		s.going, s.heard = s.begun, nil
		for task := range s.tasks() {
			s.asked[task] = append(s.asked[task], s.begun)
		}
	case a.Kind == api.ActHear && isNote:
		s.hear(a.A)
	case a.Kind == api.ActLose && isNote:
		s.notes = slices.Delete(s.notes, a.A, a.A+1)
	case a.Kind == api.ActSync:
		s.done = s.newestLeaf().Mark
		s.leaves = slices.DeleteFunc(s.leaves, func(one leaf) bool { return one.Mark != s.done })
		for i := range s.leaves {
			s.leaves[i].loose = false
		}
	case a.Kind == api.ActTell:
		s.tell(a.A)
	case a.Kind == api.ActCrash:
		s.crash(a.A)
	}
}

// view shows it.
func (s *slow) view() api.View {
	v := api.View{Up: s.up, Par: s.g.Par, Going: s.going, Done: s.newestLeaf().Mark, Messages: len(s.notes)}
	if s.up {
		v.Done = s.done
	}
	for task := range s.tasks() {
		node, _, _ := s.place(task)
		if s.job.Nodes[node].Op.Kind == api.OpSource {
			v.Offsets = append(v.Offsets, s.own(task)...)
		}
	}
	for _, o := range v.Offsets {
		v.Late += min(o.At, len(s.parts[o.Node][o.Part])) - len(s.read(o).rows)
	}
	for _, q := range s.queues {
		v.Queues = append(v.Queues, len(q))
	}
	for l := range maps.Values(s.held) {
		v.Held += len(l)
	}
	for _, one := range s.lots {
		v.Prepared += len(one.rows)
	}
	for _, n := range sinks(s.job) {
		v.Table = append(v.Table, api.Sunk{Sink: n.Name, Rows: value.Sorted(s.seen[n.Name])})
	}
	return v
}

// par gives numbers of tasks; few are none.
func (m maker) par(nodes int) []int {
	var l []int
	most := 1 + m.Intn(4)
	for range nodes {
		l = append(l, 1+m.Intn(most))
	}
	if m.Intn(30) == 0 {
		l = append(l, 1)
	}
	if nodes > 0 && m.Intn(30) == 0 {
		l[m.Intn(nodes)] = pick(m, 0, 5, -1)
	}
	return l
}

// acts gives what is done next to a cluster that shows this: one act, or so
// many that something comes of them.
func (m maker) acts(v api.View, nodes int) []api.Act {
	tasks := 0
	for _, n := range v.Par {
		tasks += n
	}
	near := func(n int) int { return m.Intn(n+3) - 1 }
	choice := func() int { return m.Intn(9) - m.Intn(2)*m.Intn(2) }
	var l []api.Act
	switch n := m.Intn(100); {
	case !v.Up && n < 60 || n < 4:
		l = append(l, api.Act{Kind: api.ActStart, Par: m.par(nodes)})
	case n < 30:
		for range m.Intn(12 * (tasks + 1)) {
			l = append(l, api.Act{Kind: api.ActRun, A: near(tasks), B: choice()})
		}
	case n < 40:
		l = m.flow(v, tasks)
	case n < 60:
		for range m.Intn(2*v.Messages + 2) {
			l = append(l, api.Act{Kind: api.ActHear, A: near(v.Messages)})
		}
	case n < 65:
		l = append(l, api.Act{Kind: api.ActMark})
	case n < 67:
		l = append(l, api.Act{Kind: api.ActLose, A: near(v.Messages)})
	case n < 74:
		l = append(l, api.Act{Kind: api.ActSync})
	case n < 84:
		l = append(l, api.Act{Kind: api.ActTell, A: near(tasks)})
	case n < 88:
		l = append(l, api.Act{Kind: api.ActCrash, A: near(2)})
	case n < 98:
		l = m.checkpoint(v, tasks)
	default:
		l = append(l, api.Act{Kind: m.Intn(14) - 2, A: near(tasks), B: choice(), Par: m.par(nodes)})
	}
	return l
}

// flow lets all that is on its way come far.
func (m maker) flow(v api.View, tasks int) []api.Act {
	most := 25
	if len(v.Queues) > 200 {
		most = 500
	}
	most = m.Intn(most)
	var l []api.Act
	for task := range tasks {
		l = append(l, slices.Repeat([]api.Act{{Kind: api.ActRun, A: task, B: m.Intn(3)}}, most)...)
	}
	return l
}

// checkpoint gives the acts of one, to wherever it comes.
func (m maker) checkpoint(v api.View, tasks int) []api.Act {
	l := append([]api.Act{{Kind: api.ActMark}}, m.flow(v, tasks)...)
	if m.Intn(3) > 0 {
		l = append(l, m.flow(v, tasks)...)
	}
	for left := v.Messages + 2*tasks; left > 0; left-- {
		l = append(l, api.Act{Kind: api.ActHear, A: m.Intn(left) * m.Intn(2)})
	}
	if m.Intn(2) == 0 {
		l = append(l, api.Act{Kind: api.ActSync})
	}
	for range m.Intn(2*tasks + 1) {
		l = append(l, api.Act{Kind: api.ActTell, A: m.Intn(tasks)})
	}
	return l
}

// against holds a cluster, as acts are done to it, against the second reading,
// and tells how many checkpoints were written, and how often it went on from
// one.
func (m maker) against(t *testing.T, text string, j api.Job, in []api.Log) (written, started int) {
	t.Helper()
	c, s := made(t, text, in), newSlow(j, in)
	var done []api.Act
	for range 150 {
		was, begun := s.newestLeaf().Mark, s.up
		for _, a := range m.acts(c.View(), len(j.Nodes)) {
			c.Do(a)
			s.do(a)
			done = append(done, a)
		}
		k, slowly := c.Newest(), s.newestLeaf()
		got := fmt.Sprint(whole(c.View()), " newest ", k.Mark, k.Offsets)
		want := fmt.Sprint(whole(s.view()), " newest ", slowly.Mark, slowly.Offsets)
		if got != want {
			t.Fatalf("New(%q, %v) behind %v:\n%s, want\n%s", text, in, done, got, want)
		}
		if slowly.Mark > was {
			written++
		}
		if s.up && !begun && s.done > 0 {
			started++
		}
	}
	return written, started
}

// TestC6AtRandom holds all kinds of jobs against the second reading.
func TestC6AtRandom(t *testing.T) {
	written, started := 0, 0
	for seed := range int64(400) {
		m := maker{rand.New(rand.NewSource(seed))}
		text, j := m.text()
		w, s := m.against(t, text, j, m.logs(j))
		written, started = written+w, started+s
	}
	if written < 1000 || started < 1000 {
		t.Errorf("only %d were written, %d times it went on from one", written, started)
	}
}

// TestC4AtRandom holds jobs with unions of many inputs against it.
func TestC4AtRandom(t *testing.T) {
	written := 0
	for seed := range int64(100) {
		m := maker{rand.New(rand.NewSource(seed))}
		text := "stream s (n int) late 3\nstream r (n int)\nu = s union r" + strings.Repeat(", s, r", 14+m.Intn(9)) +
			"\nk = u by n in tumble 7 give count() as c\nsink x = k\n"
		j, _, err := job.Parse(text)
		if err != nil {
			t.Fatal(err)
		}
		w, _ := m.against(t, text, j, m.logs(j))
		written += w
	}
	if written < 30 {
		t.Errorf("only %d were written", written)
	}
}

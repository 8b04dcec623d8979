package cluster_test

import (
	"fmt"
	"math/rand"
	"slices"
	"testing"

	"streamwright/api"
	"streamwright/cluster"
)

// soMuch gives the offsets of a checkpoint; of none, all partitions with
// nothing of them read.
func soMuch(k api.Check, j api.Job, in []api.Log) []api.Offset {
	if k.Mark > 0 {
		return k.Offsets
	}
	var l []api.Offset
	for at, n := range j.Nodes {
		for _, one := range in {
			for part := range one.Parts {
				if one.Stream == n.Name {
					l = append(l, upTo(at, part, 0))
				}
			}
		}
	}
	return l
}

// once tells whether what is seen is among what a job means; all: it is just
// that.
func once(seen, meant []api.Sunk, all bool) bool {
	if len(seen) != len(meant) {
		return false
	}
	for i, s := range seen {
		if s.Sink != meant[i].Sink || !among(s.Rows, meant[i].Rows) || all && len(s.Rows) != len(meant[i].Rows) {
			return false
		}
	}
	return true
}

// watched is a cluster, with what its job means.
type watched struct {
	stage
	text  string
	job   api.Job
	in    []api.Log
	meant map[string][]api.Sunk // by offsets
	acts  []api.Act             // all that were done
}

func watch(t *testing.T, m maker) *watched {
	text, j := m.text()
	in := m.logs(j)
	return &watched{stage: made(t, text, in), text: text, job: j, in: in, meant: map[string][]api.Sunk{}}
}

// means gives what the job means, when so much was read.
func (w *watched) means(offsets []api.Offset) []api.Sunk {
	w.Helper()
	name := fmt.Sprint(offsets)
	l, ok := w.meant[name]
	if !ok {
		var err error
		if l, err = cluster.Means(w.text, w.in, offsets); err != nil {
			w.Fatalf("Means(%q, %v, %v): %v", w.text, w.in, offsets, err)
		}
		w.meant[name] = l
	}
	return l
}

// holds what is seen against what is meant.
func (w *watched) holds(meant []api.Sunk, all bool) {
	w.Helper()
	if seen := w.View().Table; !once(seen, meant, all) {
		w.Fatalf("New(%q, %v) behind %v: %s, of %s", w.text, w.in, w.acts, shown(seen), shown(meant))
	}
}

// do does an act, and holds what is seen against C9.
func (w *watched) do(a api.Act) {
	w.Helper()
	was := w.Up()
	w.Do(a)
	w.acts = append(w.acts, a)
	w.holds(w.means(soMuch(w.Newest(), w.job, w.in)), w.Up() && !was)
}

// TestC9AtRandom: whatever is done, each row is seen once.
func TestC9AtRandom(t *testing.T) {
	seen, behind := 0, 0
	for seed := range int64(150) {
		m := maker{rand.New(rand.NewSource(-1 - seed))}
		w := watch(t, m)
		for range 100 {
			was := w.Up()
			for _, a := range m.acts(w.View(), len(w.job.Nodes)) {
				w.do(a)
			}
			if w.Up() && !was {
				behind += len(shown(w.View().Table))
			}
		}
		for _, s := range w.View().Table {
			seen += len(s.Rows)
		}
	}
	if seen < 800 || behind < 20000 {
		t.Errorf("only %d rows were seen, and %d bytes of them behind a start", seen, behind)
	}
}

// played gives a cluster to which some acts were done.
func played(t *testing.T, m maker, rounds int) *watched {
	w := watch(t, m)
	for range rounds {
		for _, a := range m.acts(w.View(), len(w.job.Nodes)) {
			w.Do(a)
			w.acts = append(w.acts, a)
		}
	}
	return w
}

// TestC10AtRandom: from wherever acts have led, all comes into the table, and
// stays there.
func TestC10AtRandom(t *testing.T) {
	came, up := 0, 0
	for seed := range int64(1000) {
		m := maker{rand.New(rand.NewSource(seed))}
		w := played(t, m, m.Intn(60))
		all := w.means(nil)
		if w.Up() {
			up++
		}
		for !w.Finish(m.par(len(w.job.Nodes))) {
		}
		w.holds(all, true)
		v := w.View()
		if !v.Up || v.Going != 0 || v.Done != w.Newest().Mark || v.Done < 1 || v.Messages+v.Held+v.Prepared != 0 || slices.Max(append(v.Queues, 0)) != 0 {
			t.Fatalf("%d: New(%q, %v) behind %v, at the end: %s", seed, w.text, w.in, w.acts, whole(v))
		}
		for range m.Intn(30) {
			for _, a := range m.acts(w.View(), len(w.job.Nodes)) {
				w.Do(a)
			}
			w.holds(all, true)
		}
		for !w.Finish(m.par(len(w.job.Nodes))) {
		}
		w.holds(all, true)
		for _, s := range all {
			came += len(s.Rows)
		}
	}
	if came < 5000 || up < 500 {
		t.Errorf("only %d rows came, and %d were up", came, up)
	}
}

// TestC11AtRandom: what one job with its logs comes to hangs neither on acts
// nor on how many tasks there are.
func TestC11AtRandom(t *testing.T) {
	for seed := range int64(150) {
		first := ""
		for way := range int64(6) {
			// The job and its logs are those of the seed alone.
			w := watch(t, maker{rand.New(rand.NewSource(seed))})
			m := maker{rand.New(rand.NewSource(1000*seed + way))}
			for range m.Intn(80) * int(min(way, 1)) {
				for _, a := range m.acts(w.View(), len(w.job.Nodes)) {
					w.Do(a)
				}
			}
			for !w.Finish(m.par(len(w.job.Nodes))) {
			}
			v := w.View()
			got := fmt.Sprint(shown(v.Table), v.Late)
			if way == 0 {
				first = got
			}
			if got != first {
				t.Fatalf("%d: New(%q, %v): once %s, and then %s", seed, w.text, w.in, first, got)
			}
		}
	}
}

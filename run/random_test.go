package run_test

import (
	"fmt"
	"math/rand"
	"regexp"
	"strings"
	"testing"

	"streamwright/api"
	"streamwright/cluster"
	"streamwright/job"
	"streamwright/plain"
	"streamwright/run"
)

// answer gives what a session answers.
func answer(text string) string { return run.Session(text) }

// second is a session, read a second time by its chapter, with the cluster's own calls.
type second struct {
	job  []string
	logs []api.Log
	c    *cluster.Cluster
	out  strings.Builder
}

var order = regexp.MustCompile(`^(run|mark|hear|lose|sync|tell|crash|start|finish|show|table|means)((?: (?:0|[1-9][0-9]{0,5}))*)$`)

func (s *second) say(form string, l ...any) { fmt.Fprintf(&s.out, form+"\n", l...) }

// A line of a plan: what stands behind the first space may be empty.
var planned = regexp.MustCompile(`(?s)^(job|log|row|part)(?: (.*))?$`)

// plans tells whether a line says what the cluster is to be.
func (s *second) plans(line string) bool {
	m := planned.FindStringSubmatch(line)
	if s.c != nil || m == nil {
		return false
	}
	switch m[1] {
	case "job":
		s.job = append(s.job, m[2])
		return true
	case "log":
		s.logs = append(s.logs, api.Log{Stream: m[2]})
		return true
	}
	if len(s.logs) == 0 {
		return false
	}
	log := &s.logs[len(s.logs)-1]
	if m[1] == "part" {
		if m[2] == "" {
			log.Parts = append(log.Parts, nil)
		}
		return m[2] == ""
	}
	if len(log.Parts) == 0 {
		return false
	}
	part := &log.Parts[len(log.Parts)-1]
	if r, err := run.Row(m[2]); err == nil {
		*part = append(*part, r)
	} else {
		s.say("ErrSyntax")
	}
	return true
}

func (s *second) sunk(l []api.Sunk) {
	for _, x := range l {
		s.say("%s %d", x.Sink, len(x.Rows))
		for _, r := range x.Rows {
			s.say("%s", run.Show(r))
		}
	}
}

func (s *second) show() {
	v := s.c.View()
	if !v.Up {
		s.say("down done %d prepared %d", v.Done, v.Prepared)
		return
	}
	queued := 0
	for _, n := range v.Queues {
		queued += n
	}
	s.say("up done %d going %d queued %d messages %d held %d prepared %d late %d", v.Done, v.Going, queued, v.Messages, v.Held, v.Prepared, v.Late)
}

func (s *second) line(line string) {
	if s.plans(line) {
		return
	}
	m := order.FindStringSubmatch(line)
	if m == nil {
		s.say("bad")
		return
	}
	var numbers []int
	for _, f := range strings.Fields(m[2]) {
		n := 0
		fmt.Sscan(f, &n)
		numbers = append(numbers, n)
	}
	text := strings.Join(s.job, "\n")
	if m[1] == "means" {
		l, err := cluster.Means(text, s.logs, nil)
		if len(numbers) > 0 {
			s.say("bad")
		} else if err != nil {
			s.say("%v", plain.Told(err))
		} else {
			s.sunk(l)
		}
		return
	}
	if s.c == nil {
		c, err := cluster.New(text, s.logs)
		if err != nil {
			s.say("%v", plain.Told(err))
			return
		}
		s.c = c
	}
	s.does(m[1], numbers)
}

func (s *second) does(word string, n []int) {
	j, _, _ := job.Parse(strings.Join(s.job, "\n"))
	par := n
	if len(n) == 1 {
		par = nil
		for range j.Nodes {
			par = append(par, n[0])
		}
	}
	takes := map[string]int{"run": 2, "hear": 1, "lose": 1, "tell": 1, "crash": 1, "start": len(n), "finish": len(n)}[word]
	if takes != len(n) {
		s.say("bad")
		return
	}
	n = append(n, 0, 0)
	switch word {
	case "run":
		s.c.Do(api.Act{Kind: api.ActRun, A: n[0], B: n[1]})
	case "mark":
		s.c.Do(api.Act{Kind: api.ActMark})
	case "hear":
		s.c.Do(api.Act{Kind: api.ActHear, A: n[0]})
	case "lose":
		s.c.Do(api.Act{Kind: api.ActLose, A: n[0]})
	case "sync":
		s.c.Do(api.Act{Kind: api.ActSync})
	case "tell":
		s.c.Do(api.Act{Kind: api.ActTell, A: n[0]})
	case "crash":
		s.c.Do(api.Act{Kind: api.ActCrash, A: n[0]})
	case "start":
		s.c.Do(api.Act{Kind: api.ActStart, Par: par})
	case "finish":
		s.say("%v", s.c.Finish(par))
		return
	case "table":
		s.sunk(s.c.View().Table)
		return
	}
	s.show()
}

// again answers a session by the second reading.
func again(text string) string {
	var s second
	for _, line := range strings.Split(strings.TrimSuffix(text, "\n"), "\n") {
		s.line(line)
	}
	return s.out.String()
}

// pick gives one of them.
func pick(r *rand.Rand, l ...string) string { return l[r.Intn(len(l))] }

// number gives one that is mostly small, and is now and then none.
func number(r *rand.Rand, bound int) string {
	if r.Intn(40) == 0 {
		return pick(r, "", "01", "-1", "x", "1000000", "999999", "1 ", "0 0", "+1")
	}
	return fmt.Sprint(r.Intn(bound))
}

// randomPlan gives lines that say what a cluster is to be; now and then one is wrong.
func randomPlan(r *rand.Rand) []string {
	l := []string{
		"job stream s (k int, t text) late " + number(r, 6),
		"job stream r (k int)",
		"job w = s where k > " + number(r, 3),
		"job " + pick(r,
			"c = w by t in tumble 5 give count() as n, sum(k) as m",
			"c = w by k in session 3 give last(t) as l",
			"c = w join r on k = k in slide 6 every 3",
			"c = r outer join s on k = k in whole",
			"c = s union w",
			"c = s select k + 1 as k"),
		"job sink x = c",
		"job sink y = " + pick(r, "s", "w", "r", "c"),
	}
	for _, stream := range []string{"s", "r"} {
		if r.Intn(8) == 0 {
			continue
		}
		l = append(l, "log "+stream)
		for range r.Intn(3) {
			l = append(l, "part")
			for range r.Intn(7) {
				line := fmt.Sprintf("row %s: %d", number(r, 30), r.Intn(5))
				if stream == "s" {
					line += ", '" + pick(r, "a", "b", ", ", "c: d") + "'"
				}
				l = append(l, line)
			}
		}
	}
	if r.Intn(6) == 0 {
		at := r.Intn(len(l))
		l[at] = pick(r, "job", "job ", "job x", "log", "log s", "log q", "part", "part ", "part 1", "row 1: 2", "row", "foo", "", "means", "means 1", "show x", "show 1", "show", "row 1: true")
	}
	return l
}

// randomOrder gives a line for a cluster, mostly for its first so many tasks;
// now and then it is none.
func randomOrder(r *rand.Rand, tasks int) string {
	switch r.Intn(150) {
	case 0, 1:
		return pick(r, "", "foo", "foo 1", "part", "job x", "show 1", "means 1", "mark 0", "run 1", "hear", "tell 1 2", "Show", "show ")
	case 2:
		return "start " + number(r, 6)
	case 3:
		return pick(r, "start", "start 1 2 3 4 1 2", "start 1 1 2 2 3 3", "finish", "finish 1 1 1 1 1 1")
	case 4:
		return pick(r, "finish "+number(r, 6), "crash "+number(r, 3))
	case 5, 6:
		return pick(r, "show", "table", "means", "table")
	case 7, 8, 9:
		return "mark"
	case 10:
		return "lose " + number(r, 4)
	case 11, 12, 13:
		return pick(r, "sync", "tell "+number(r, 8))
	case 14, 15, 16, 17, 18, 19, 20, 21, 22, 23:
		return "hear " + number(r, 3)
	}
	return "run " + number(r, tasks) + " " + number(r, 4)
}

// apart tells where two answers are not the same for the first time.
func apart(got, want string) string {
	a, b := strings.Split(got, "\n"), strings.Split(want, "\n")
	for i := range min(len(a), len(b)) {
		if a[i] != b[i] {
			return fmt.Sprintf("line %d of the answer is %q, want %q", i+1, a[i], b[i])
		}
	}
	return fmt.Sprintf("%d lines of answers, want %d", len(a)-1, len(b)-1)
}

func TestR2Random(t *testing.T) {
	seen := map[string]int{}
	for seed := range int64(400) {
		r := rand.New(rand.NewSource(seed))
		l := randomPlan(r)
		par := 1 + r.Intn(3)
		if r.Intn(5) > 0 {
			l = append(l, fmt.Sprint("start ", par))
		}
		for range r.Intn(600) {
			l = append(l, randomOrder(r, 6*par+1))
		}
		text := strings.Join(l, "\n")
		got, want := run.Session(text), again(text)
		if got != want {
			t.Fatalf("seed %d: %q: %s", seed, text, apart(got, want))
		}
		for _, word := range []string{"bad\n", "ErrSyntax\n", "ErrName\n", "up done 1 ", "up done 2 ", "down done 1 ", "true\n", "false\n", "x 1\n", "prepared 2", "held 3", "late 1"} {
			if strings.Contains(got, word) {
				seen[word]++
			}
		}
		if run.Session(text) != got {
			t.Fatalf("seed %d: %q is answered otherwise a second time", seed, text)
		}
	}
	for word, n := range seen {
		if n < 10 {
			t.Errorf("only %d sessions had the answer %q", n, word)
		}
	}
	if len(seen) < 12 {
		t.Errorf("these answers alone came: %v", seen)
	}
}

package cluster_test

import (
	"fmt"
	"strings"
	"testing"

	"streamwright/api"
	"streamwright/cluster"
	"streamwright/job"
	"streamwright/spread"
)

// fork has a stream that goes two ways.
const fork = "stream s (n int)\nw = s where n > 1\nk = s by n in whole give count() as c\nsink x = w\nsink y = k"

// TestC2Queues: with 2, 1, 3, 1 and 2 tasks the channels of s to w are 0 and 1,
// those of s to k 2 to 4 and 5 to 7, of w to x 8, of k to y 9 to 14.
func TestC2Queues(t *testing.T) {
	s := made(t, fork, logs(log("s", []api.Row{row(4, 1)}, []api.Row{row(5, 1)})))
	s.plays("start 2 1 3 1 2")
	// The number 1 is of the group 2, which the first of three tasks keeps.
	s.sees("run 0 0", "queues [2 0 2 1 1 0 0 0 0 0 0 0 0 0 0]")
	s.sees("run 1 0", "queues [2 2 2 1 1 2 1 1 0 0 0 0 0 0 0]")
	s.sees("mark; run 0 0", "queues [3 2 3 2 2 2 1 1 0 0 0 0 0 0 0]")
	s.sees("run 1 0", "queues [3 3 3 2 2 3 2 2 0 0 0 0 0 0 0]")
	// w is task 2, of k are 3 to 5; the times and the marks come on, no row does.
	s.sees("run 2 0 x6", "queues [0 0 3 2 2 3 2 2 2 0 0 0 0 0 0]")
	s.sees("run 4 0", "queues [0 0 3 1 2 3 2 2 2 0 0 0 0 0 0]")
	s.sees("run 5 1", "queues [0 0 3 1 2 3 2 1 2 0 0 0 0 0 0]")
	s.sees("run 5 0", "queues [0 0 3 1 1 3 2 1 2 0 0 0 0 1 1]")
	s.sees("run 3 0 x6", "queues [0 0 0 1 1 0 2 1 2 2 2 0 0 1 1]")
	// x is task 6, of y are 7 and 8.
	s.sees("run 6 0", "queues [0 0 0 1 1 0 2 1 1 2 2 0 0 1 1]")
	s.sees("run 7 0", "queues [0 0 0 1 1 0 2 1 1 1 2 0 0 1 1]")
	s.sees("run 8 1", "queues [0 0 0 1 1 0 2 1 1 1 2 0 0 1 0]")
	s.sees("run 9 0; run 8 2", "queues [0 0 0 1 1 0 2 1 1 1 1 0 0 1 0]")
}

// TestC2Targets: a row goes by each edge to its Target, a time to all.
func TestC2Targets(t *testing.T) {
	const text = "stream s (n int, m int)\nu = s union s\nk = s by m, n in whole\nj = s select n as a\nsink x = s"
	par := []int{3, 2, 4, 3, 1}
	var parts [3][]api.Row
	for n := range 60 {
		parts[n%3] = append(parts[n%3], row(5, n, n*n))
	}
	s := made(t, text, logs(log("s", parts[:]...)))
	s.Do(api.Act{Kind: api.ActStart, Par: par})
	j, _, err := job.Parse(text)
	if err != nil {
		t.Fatal(err)
	}
	g, err := spread.Expand(j, par)
	if err != nil {
		t.Fatal(err)
	}
	want := make([]int, len(g.Channels))
	for task, rows := range parts {
		for i, r := range rows {
			for at, c := range g.Channels {
				// All are of one time, which is told with the first of them.
				if c.From == task && (i == 0) {
					want[at]++
				}
				if c.From == task && spread.Target(g, c.Edge, task, r) == c.To {
					want[at]++
				}
			}
			s.plays(fmt.Sprint("run ", task, " 0"))
			s.has("C2: queues", s.View().Queues, want)
		}
	}
}

// flat has one stream and one sink.
const flat = "stream s (n int)\nsink x = s"

// TestC3Partitions: a task has each Par'th of them, and reads one by its
// choice, of those that are not at their end.
func TestC3Partitions(t *testing.T) {
	s := made(t, flat, logs(log("s", times(1, 2), nil, times(1), times(4), times(5))))
	s.sees("start 2 1", "read [{0 0 0} {0 2 0} {0 4 0} {0 1 0} {0 3 0}]")
	s.sees("run 0 0", "read [{0 0 1} {0 2 0} {0 4 0} {0 1 0} {0 3 0}]")
	s.sees("run 0 1", "read [{0 0 1} {0 2 1} {0 4 0} {0 1 0} {0 3 0}]")
	s.sees("run 0 5", "read [{0 0 1} {0 2 1} {0 4 1} {0 1 0} {0 3 0}]")
	s.sees("run 0 4", "read [{0 0 1} {0 2 2} {0 4 1} {0 1 0} {0 3 0}]")
	s.sees("run 0 1", "read [{0 0 1} {0 2 2} {0 4 2} {0 1 0} {0 3 0}]")
	s.sees("run 0 1", "read [{0 0 2} {0 2 2} {0 4 2} {0 1 0} {0 3 0}]")
	s.sees("run 0 7", "read [{0 0 3} {0 2 2} {0 4 2} {0 1 0} {0 3 0}]")
	s.sees("run 0 0 x3", "read [{0 0 3} {0 2 2} {0 4 2} {0 1 0} {0 3 0}]")
	s.sees("run 1 9223372036854775806", "read [{0 0 3} {0 2 2} {0 4 2} {0 1 1} {0 3 0}]")
	s.sees("run 1 9223372036854775807", "read [{0 0 3} {0 2 2} {0 4 2} {0 1 1} {0 3 1}]")
	s.sees("run 1 -1; run 1 -9223372036854775808", "read [{0 0 3} {0 2 2} {0 4 2} {0 1 1} {0 3 1}]")
	s = made(t, flat, logs(log("s", times(1, 2), nil, times(1), times(4), times(5))))
	s.sees("start 4 1", "read [{0 0 0} {0 4 0} {0 1 0} {0 2 0} {0 3 0}]")
}

// TestC3Times: the least of its partitions' is sent, if it is a later one.
func TestC3Times(t *testing.T) {
	s := made(t, "stream s (n int) late 3\nsink x = s", logs(log("s", times(10, 20, 12, 21), times(5, 15))))
	s.plays("start 1 1")
	s.sees("run 0 0", "queues [1] & late 0")           // row 10; the other partition has told none
	s.sees("run 0 1", "queues [3] & late 0")           // row 5, time 2
	s.sees("run 0 0", "queues [4] & late 0")           // row 20; it is still 2
	s.sees("run 0 0", "queues [4] & late 1")           // row 12 is late: the partition is at 17
	s.sees("run 0 1", "queues [6] & late 1")           // row 15, time 12
	s.sees("run 0 1", "queues [7] & late 1")           // the end, time 17
	s.sees("run 0 0", "queues [9] & late 1")           // row 21, time 18
	s.sees("run 0 0", "queues [10] & late 1")          // the end of both: time Forever
	s.sees("run 0 0; run 0 1", "queues [10] & late 1") // nothing is left
	s.sees("run 1 0 x10", "queues [0] & held 5")
}

// TestC3NoPartition: without any its time is Forever, and is sent once.
func TestC3NoPartition(t *testing.T) {
	for _, in := range [][]api.Log{nil, logs(log("s"))} {
		s := made(t, flat, in)
		s.sees("start 2 1", "read [] & queues [0 0]")
		s.sees("run 0 0", "queues [1 0]")
		s.sees("run 0 3", "queues [1 0]")
		s.sees("mark; run 0 0", "queues [2 0] & messages 1")
		s.sees("run 1 0", "queues [2 2] & messages 2")
	}
	// A window ends only when all tasks have told: one has no partition.
	s := made(t, "stream s (n int)\nk = s by nothing in tumble 5\nsink x = k", logs(log("s", times(2, 7))))
	s.plays("start 2 1 1; run 0 0 x2; run 2 0 x4")
	s.sees("", "queues [0 0 0]")
	s.sees("run 1 0; run 2 0", "queues [0 0 2]")
}

// TestC3Marks: those it was asked for come first, one by one, behind the time.
func TestC3Marks(t *testing.T) {
	s := made(t, flat, logs(log("s", times(4, 8))))
	s.plays("start 1 1; run 0 0; mark; mark; mark")
	s.sees("", "going 3 & queues [2] & messages 0")
	s.sees("run 0 0", "queues [3] & messages 1 & read [{0 0 1}]")
	s.sees("run 0 5; run 0 0", "queues [5] & messages 3 & read [{0 0 1}]")
	s.sees("run 0 0", "queues [7] & messages 3 & read [{0 0 2}]")
	s.sees("run 1 0 x7; lose 0 x2", "queues [0] & messages 4 & held 1 & prepared 1")
	// Those of the sink are of the marks 1, 2 and 3; with the third one of each
	// all were heard.
	s.sees("hear 3; hear 0", "messages 2 & going 0")
	s.has("C3: newest", s.Newest().Mark, 3)
	// Behind a start the time was told to nobody: it is sent ahead of the mark.
	s.plays("sync; crash 0; start 1 1")
	s.sees("mark; run 0 0", "queues [2] & read [{0 0 1}] & messages 1")
	s.sees("mark; run 0 0", "queues [3] & read [{0 0 1}] & messages 2")
	s.plays("run 1 0 x2; hear 1; hear 1")
	s.sees("run 0 0", "queues [3] & read [{0 0 2}]")
}

// join has two streams whose rows meet.
const join = "stream r (a int)\nstream s (b int)\nj = s join r on b = a in tumble 10\nsink x = j"

// TestC4Choice: of the channels in which there is something, by its number.
func TestC4Choice(t *testing.T) {
	s := made(t, "stream r (n int)\nstream s (n int)\nu = r union s, r\nsink x = u", logs(log("s", many(9)), log("r", many(9))))
	s.plays("start 1 1 1 1; run 0 0 x3; run 1 0 x2")
	// The rows, and the time 1; the edges are those of r, s and r to u.
	s.sees("", "queues [4 3 4 0]")
	s.sees("run 2 0", "queues [3 3 4 1]")
	s.sees("run 2 1", "queues [3 2 4 2]")
	s.sees("run 2 2", "queues [3 2 3 3]")
	s.sees("run 2 4", "queues [3 1 3 3]")
	s.sees("run 2 7", "queues [3 0 3 4]")
	// Now it is the first one or the third one.
	s.sees("run 2 1", "queues [3 0 2 4]")
	s.sees("run 2 0", "queues [2 0 2 5]")
	s.sees("run 2 3 x2", "queues [2 0 0 7]")
	s.sees("run 2 9223372036854775807 x2", "queues [0 0 0 9]")
	s.sees("run 2 0; run 2 1; run 2 -1", "queues [0 0 0 9]")
	s.sees("run 3 3 x9", "queues [0 0 0 0] & held 8")
}

// TestC4Waits: a channel that waits with a mark is none of them.
func TestC4Waits(t *testing.T) {
	s := made(t, "stream r (n int)\nstream s (n int)\nu = r union s\nsink x = u", logs(log("s", many(9)), log("r", many(9))))
	s.plays("start 1 1 1 1; mark; run 0 0 x3; run 1 0 x3; run 1 0")
	s.sees("", "queues [4 5 0] & messages 2") // a mark, a row, the time 1, a row
	s.sees("run 2 0", "queues [3 5 0] & messages 2")
	s.sees("lose 0 x2; mark; run 1 0; run 0 0", "queues [4 6 0] & messages 2")
	// The first one waits: whatever the choice, it is the other one's mark.
	s.sees("run 2 0", "queues [4 5 1] & messages 3")
	s.sees("run 2 0 x3", "queues [1 5 3] & messages 3")
	s.sees("run 2 0", "queues [0 5 3] & messages 3")    // the second mark
	s.sees("run 2 0 x3", "queues [0 2 6] & messages 3") // two rows, and the time 1 of both
	s.sees("run 0 0", "queues [1 2 6] & messages 3")
	s.sees("run 2 2", "queues [1 1 7] & messages 3")
	s.sees("run 2 2", "queues [1 0 8] & messages 4")
	s.sees("run 2 0", "queues [0 0 9] & messages 4")
}

// TestC4Join: a row comes by the input of its edge.
func TestC4Join(t *testing.T) {
	in := logs(log("r", []api.Row{row(1, 7), row(12, 8)}), log("s", []api.Row{row(2, 7), row(3, 7), row(15, 9)}))
	for text, want := range map[string]string{
		join: "x: 9 7 7; 9 7 7;",
		strings.Replace(join, "j = s", "j = s outer", 1):                         "x: 9 7 7; 9 7 7; 19 9 null;",
		strings.Replace(join, "s join r on b = a", "r outer join s on a = b", 1): "x: 9 7 7; 9 7 7; 19 8 null;",
	} {
		s := made(t, text, in)
		s.has("C4: a join", s.Finish([]int{1, 1, 1, 1}), true)
		s.has("C4: a join", shown(s.View().Table), want)
	}
	s := made(t, join, in)
	s.plays("start 1 1 1 1; run 0 0 x2; run 1 0 x3")
	s.sees("", "queues [6 4 0]") // the edge of s is the first one
	s.sees("run 2 0 x5", "queues [1 4 0]")
	s.sees("run 2 1 x3", "queues [1 1 1]") // the time 2
	s.sees("run 2 0", "queues [0 1 1]")
	s.sees("run 2 0", "queues [0 0 4]") // two rows, ahead of the time 12
	s.sees("run 3 0", "queues [0 0 3] & held 0")
	s.sees("run 3 0 x2", "queues [0 0 1] & held 2")
}

// TestC4ManyChannels: a task of a union can have more channels than a Gate
// takes; they come together as they would in one.
func TestC4ManyChannels(t *testing.T) {
	in := logs(log("s", times(1, 5, 12), times(3, 11), times(2)))
	for _, inputs := range []int{2, 16, 17, 32, 33, 48, 49, 200} {
		text := "stream s (n int)\nu = s union s" + strings.Repeat(", s", inputs-2) + "\nk = u by n in tumble 10 give count() as c\nsink x = k"
		all, err := cluster.Means(text, in, nil)
		if err != nil {
			t.Fatal(err)
		}
		s := made(t, text, in)
		on := func() []int { return s.View().Queues[12*inputs : 12*inputs+3] }
		s.plays("start 4 3 1 1; run 0 0 x9; run 1 0 x9; run 2 0 x9; mark; run 0 0; run 1 0; run 2 0")
		// The fourth task has told nothing: but for the rows all waits.
		s.plays(fmt.Sprintf("run 4 0 x%[1]d; run 5 0 x%[1]d; run 6 0 x%[1]d", 20*inputs))
		rows := on()
		s.has("C4: rows that came through", rows[0]+rows[1]+rows[2], 6*inputs)
		s.has("C4: all else", s.View().Queues[:12*inputs], make([]int, 12*inputs))
		s.sees("run 3 0", "messages 4")
		s.sees(fmt.Sprintf("run 4 0 x%d", 2*inputs-2), "messages 4")
		s.has("C4: all channels but one", on(), rows)
		s.sees("run 4 0", "messages 4")
		s.has("C4: the time", on(), []int{rows[0] + 1, rows[1], rows[2]})
		s.sees("run 4 0", "messages 5")
		s.has("C4: the mark", on(), []int{rows[0] + 2, rows[1], rows[2]})
		s.sees("run 4 0", "messages 5")
		s.plays("crash 0")
		if !s.Finish([]int{4, 2, 3, 1}) || shown(s.View().Table) != shown(all) {
			t.Errorf("C4: %d inputs: %s, want %s", inputs, shown(s.View().Table), shown(all))
		}
	}
}

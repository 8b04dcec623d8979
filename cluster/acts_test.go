package cluster_test

import (
	"fmt"
	"math"
	"testing"

	"streamwright/api"
	"streamwright/cluster"
)

// three gives a cluster of one stream with the rows 1, 2 and 3, and one sink.
func three(t *testing.T) stage {
	t.Helper()
	return made(t, flat, logs(log("s", times(4, 8, 9))))
}

const (
	// begun reads a row and begins a checkpoint, whose mark comes to the sink.
	begun = "run 0 0; mark; run 0 0; run 1 0 x3"
	// written has it written, too.
	written = begun + "; hear 0 x2"
)

// TestC5Messages: a task tells of a mark when it comes through, behind all
// messages, how far its partitions were read by then.
func TestC5Messages(t *testing.T) {
	s := three(t)
	s.sees("start 1 1; run 0 0; mark", "messages 0 & going 1")
	s.sees("run 0 0", "messages 1 & queues [3]")
	s.sees("run 0 0", "messages 1 & queues [5] & read [{0 0 2}]")
	s.sees("run 1 0 x2", "messages 1 & held 1 & prepared 0")
	s.sees("run 1 0", "messages 2 & held 0 & prepared 1")
	s.sees("run 1 0", "messages 2 & held 1 & prepared 1")
	s.sees("run 0 0 x2", "read [{0 0 4}]")
	s.sees("hear 1", "messages 1 & going 1")
	s.sees("hear 0", "messages 0 & going 0")
	s.has("C5: newest", fmt.Sprint(s.Newest().Mark, s.Newest().Offsets), "1 [{0 0 1}]")
	// The stream's message is the first one: without it nothing is written.
	s = three(t)
	s.sees("start 1 1; "+begun+"; lose 0; hear 0", "messages 0 & going 1")
	s.has("C5: newest", s.Newest().Mark, 0)
	// With messages of two marks the sink's first one comes behind the
	// stream's second one.
	s = three(t)
	s.sees("start 1 1; mark; run 0 0; mark; run 0 0; run 1 0 x9", "messages 4 & going 2")
	s.sees("lose 2; lose 0; hear 0; hear 0", "messages 0 & going 0")
	s.has("C5: newest", s.Newest().Mark, 2)
}

// TestC5Kept: what the operator keeps is told as it is when the mark comes.
func TestC5Kept(t *testing.T) {
	const text = "stream s (n int)\nk = s by nothing in tumble 10 give count() as c\nsink x = k"
	for _, par := range []string{"1 1 1", "3 4 2", "2 3 1"} {
		s := made(t, text, logs(log("s", times(1, 2, 13, 14))))
		s.plays("start 1 1 1; run 0 0 x2; mark; run 0 0; run 1 0 x5")
		s.sees("run 0 0; run 1 0", "messages 2 & queues [1 3]") // of the times 1 and 2, and the mark
		s.sees("run 1 0", "queues [0 5]")                       // 2 at the time 9, and the time 13
		s.sees("run 2 0 x5; hear 2; hear 1; hear 0", "messages 0 & going 0 & held 1 & prepared 0")
		k := s.Newest()
		s.has("C5: newest", fmt.Sprint(k.Mark, k.Offsets), "1 [{0 0 2}]")
		if len(k.Pieces) != 1 || k.Pieces[0].Node != 1 {
			t.Errorf("C5: pieces: %v", k.Pieces)
		}
		// The first two rows are kept, the third one is read again.
		s.sees("crash 1; start "+par, "done 1 & read [{0 0 2}] & held 0 & prepared 0")
		s.has("C5: Finish", s.Finish(nil), true)
		s.has("C5: what was kept", shown(s.View().Table), "x: 9 2; 19 2;")
	}
}

// TestC5Prepares: each sink's task for itself, those that it holds.
func TestC5Prepares(t *testing.T) {
	s := made(t, "stream s (n int)\nsink x = s\nsink y = s", logs(log("s", times(1, 2), times(3))))
	s.plays("start 2 2 2; run 0 0 x2; run 1 0; mark; run 0 0; run 1 0")
	s.sees("run 2 0 x5", "prepared 2 & held 0 & messages 3")
	s.sees("run 3 0 x3; run 4 0 x5", "prepared 5 & held 0 & messages 5")
	s.sees("run 5 0 x2", "prepared 5 & held 1 & messages 5")
	s.sees("run 5 0", "prepared 6 & held 0 & messages 6")
	s.sees("hear 0 x6; sync", "done 1 & prepared 6")
	s.sees("tell 2", "prepared 4")
	s.has("C6: told", shown(s.View().Table), "x: y: 1 1; 2 2;")
	s.sees("tell 1; tell 1; tell 2; tell 4; tell -1", "prepared 3")
	s.has("C6: told", shown(s.View().Table), "x: 3 1; y: 1 1; 2 2;")
	s.sees("tell 3; tell 0", "prepared 0")
	s.has("C6: told", shown(s.View().Table), "x: 1 1; 2 2; 3 1; y: 1 1; 2 2; 3 1;")
}

// TestC6Down: while it is not up, only a start does something.
func TestC6Down(t *testing.T) {
	s := three(t)
	behind := three(t)
	behind.plays("start 1 1; " + written + "; " + begun + "; sync; crash 0")
	for _, one := range []stage{s, behind} {
		was := whole(one.View())
		for kind := -2; kind < 12; kind++ {
			for a := -1; a < 3; a++ {
				if kind != api.ActStart {
					one.Do(api.Act{Kind: kind, A: a, Par: []int{1, 1}})
				}
			}
		}
		for _, par := range [][]int{nil, {1}, {1, 1, 1}, {0, 1}, {1, 0}, {5, 1}, {1, 5}, {-1, 1}, {1, math.MaxInt}, {math.MinInt, 1}} {
			one.Do(api.Act{Kind: api.ActStart, Par: par})
			if one.Finish(par) {
				t.Errorf("C10: Finish(%v) is true", par)
			}
		}
		if one.Up() || whole(one.View()) != was {
			t.Errorf("C6: %s, want %s", whole(one.View()), was)
		}
	}
	behind.sees("", "down par [] & going 0 & done 1 & read [] & queues [] & messages 0 & held 0 & prepared 2 & late 0")
	s.sees("start 2 4", "up par [2 4]")
}

// TestC6Nothing: numbers of nothing, and other kinds.
func TestC6Nothing(t *testing.T) {
	s := three(t)
	s.plays("start 1 1; " + written + "; " + begun + "; run 0 0; sync")
	was := whole(s.View())
	numbers := []int{math.MinInt, -2, -1, 2, 3, 99, math.MaxInt}
	for _, a := range numbers {
		for _, kind := range []int{api.ActRun, api.ActHear, api.ActLose, api.ActTell} {
			s.Do(api.Act{Kind: kind, A: a})
		}
		s.Do(api.Act{Kind: api.ActRun, A: 0, B: min(a, -1)})
		s.Do(api.Act{Kind: api.ActRun, A: 1, B: min(a, -1)})
		s.Do(api.Act{Kind: api.ActStart, A: a, Par: []int{2, 2}})
		for _, kind := range []int{math.MinInt, -1, 0, 9, 10, math.MaxInt} {
			s.Do(api.Act{Kind: kind, A: a, B: a, Par: []int{1, 1}})
		}
	}
	s.has("C6: nothing", whole(s.View()), was)
}

// TestC6Marks: one above the last one begun, which is the checkpoint's behind
// a start.
func TestC6Marks(t *testing.T) {
	s := three(t)
	s.sees("start 1 1", "going 0")
	s.sees("mark", "going 1")
	s.sees("mark; mark", "going 3")
	s.sees("crash 9; start 1 1; mark", "going 1 & done 0")
	s.sees("run 0 0; run 1 0; hear 0 x2", "going 0 & messages 0")
	s.sees("mark; mark", "going 3 & done 0")
	s.sees("sync", "going 3 & done 1")
	s.sees("crash 0; start 1 1", "going 0 & done 1")
	s.sees("mark", "going 2 & done 1")
}

// TestC6Hear: messages of another mark are forgotten.
func TestC6Hear(t *testing.T) {
	s := three(t)
	s.sees("start 1 1; "+begun, "messages 2 & going 1")
	s.sees("hear 0", "messages 1 & going 1")
	// What was heard of the first one is no matter of the second one.
	s.sees("mark; hear 0", "messages 0 & going 2")
	s.sees("run 0 0; hear 0", "messages 0 & going 2")
	s.has("C6: newest", s.Newest().Mark, 0)
	s.sees("run 1 0 x9; hear 0", "messages 0 & going 0")
	s.has("C6: newest", s.Newest().Mark, 2)
	// Behind one that was written none is going.
	s = three(t)
	s.sees("start 1 1; mark; run 0 0; mark; run 0 0; run 1 0 x2; hear 1; hear 2", "messages 2 & going 0")
	s.has("C6: newest", s.Newest().Mark, 2)
	s.sees("hear 0 x2", "messages 0 & going 0")
	s.has("C6: newest", s.Newest().Mark, 2)
}

// TestC6Lose: a message that was lost is never heard.
func TestC6Lose(t *testing.T) {
	s := three(t)
	s.sees("start 1 1; "+begun+"; lose 1", "messages 1 & going 1 & prepared 1")
	s.sees("hear 0; hear 0", "messages 0 & going 1 & prepared 1")
	// The transaction of the first mark comes with the second checkpoint.
	s.sees(written+"; sync; tell 0", "done 2 & prepared 0")
	s.has("C6: table", shown(s.View().Table), "x: 4 1; 8 2;")
}

// TestC6Sync: the newest that was written is done from then on.
func TestC6Sync(t *testing.T) {
	s := three(t)
	s.sees("start 1 1; sync", "done 0")
	s.sees(written, "done 0 & prepared 1")
	s.sees("tell 0", "done 0 & prepared 1")
	s.sees(written, "done 0 & prepared 2")
	s.sees("sync", "done 2 & prepared 2")
	s.sees(written, "done 2 & prepared 3")
	s.has("C7: newest", s.Newest().Mark, 3)
	s.sees("tell 0", "done 2 & prepared 1")
	s.has("C6: told", shown(s.View().Table), "x: 4 1; 8 2;")
	s.sees("crash 0", "done 2 & prepared 1")
	s.has("C7: newest", s.Newest().Mark, 2)
	s.sees("start 1 1", "done 2 & prepared 0 & read [{0 0 2}]")
}

// TestC6Crash: of two that are written, and a third one that is going, so many
// are left.
func TestC6Crash(t *testing.T) {
	for whole, done := range map[int]int{math.MinInt: 0, -1: 0, 0: 0, 1: 1, 2: 2, 3: 2, math.MaxInt: 2} {
		s := three(t)
		s.plays("start 1 1; " + written + "; " + written + "; " + begun)
		s.sees("", "done 0 & going 3 & prepared 3 & messages 2")
		s.sees(fmt.Sprint("crash ", whole), fmt.Sprint("down par [] & done ", done, " & prepared 3 & messages 0 & held 0"))
		s.has("C7: newest", s.Newest().Mark, done)
		s.has("C6: table", shown(s.View().Table), "x:")
		s.sees("start 1 1", fmt.Sprintf("going 0 & done %d & prepared 0 & read [{0 0 %d}] & queues [0] & messages 0", done, done))
		want := []string{"x:", "x: 4 1;", "x: 4 1; 8 2;"}[done]
		s.has("C6: table", shown(s.View().Table), want)
		s.sees("crash 0; start 2 2; mark", fmt.Sprint("going ", done+1, " & done ", done))
		s.has("C10: Finish", s.Finish(nil), true)
		s.has("C10: table", shown(s.View().Table), "x: 4 1; 8 2; 9 3;")
	}
	// What is torn is made anew, by the same mark.
	s := three(t)
	s.plays("start 1 1; " + written + "; crash 0; start 1 1; " + written)
	s.has("C7: newest", s.Newest().Mark, 1)
	s.sees("crash 1; start 1 1", "done 1 & read [{0 0 1}]")
	s.has("C6: table", shown(s.View().Table), "x: 4 1;")
}

// TestC6Late: how many came too late is what the readers tell behind a start.
func TestC6Late(t *testing.T) {
	s := made(t, flat, logs(log("s", times(9, 4, 12, 11), times(3, 2))))
	s.sees("start 1 1; run 0 0 x2; run 0 1 x2", "late 2 & read [{0 0 2} {0 1 2}]")
	s.sees("mark; run 0 0; run 1 0 x9; hear 0 x2; run 0 0 x2", "late 3 & read [{0 0 4} {0 1 2}]")
	s.sees("crash 1", "late 0 & read []")
	s.sees("start 2 1", "late 2 & read [{0 0 2} {0 1 2}]")
	s.has("C10: Finish", s.Finish(nil), true)
	s.sees("", "late 3 & read [{0 0 5} {0 1 3}]")
}

// TestC7Own: what is shown is the caller's.
func TestC7Own(t *testing.T) {
	s := made(t, "stream s (n int)\nk = s by n in whole\nsink x = s\nsink y = k", logs(log("s", times(1, 2), times(3))))
	par := []int{2, 2, 2, 1}
	s.Do(api.Act{Kind: api.ActStart, Par: par})
	clear(par)
	s.plays("run 0 0 x2; run 1 0; mark; run 0 0; run 1 0")
	for task := range 7 {
		s.plays(fmt.Sprint("run ", task, " 0 x20"))
	}
	s.plays("hear 0 x7; sync; tell 0; tell 1")
	view, newest := whole(s.View()), fmt.Sprint(s.Newest())
	v, k := s.View(), s.Newest()
	if len(k.Pieces) < 2 || len(v.Table[0].Rows) < 2 {
		t.Fatalf("C7: %s, %s", view, newest)
	}
	clear(v.Par)
	clear(v.Offsets)
	clear(v.Queues)
	apart(t, "View's Table", v.Table[0].Rows, v.Table[1].Rows, s.View().Table[0].Rows)
	clear(v.Table)
	clear(k.Offsets)
	for i, h := range k.Pieces {
		for n := range h.Piece.Bytes[:cap(h.Piece.Bytes)] {
			h.Piece.Bytes[:cap(h.Piece.Bytes)][n] = byte(i)
		}
	}
	for i, h := range k.Pieces {
		for _, b := range h.Piece.Bytes {
			if b != byte(i) {
				t.Fatal("C7: two pieces share memory")
			}
		}
	}
	clear(k.Pieces)
	s.has("C7: View", whole(s.View()), view)
	s.has("C7: Newest", fmt.Sprint(s.Newest()), newest)
}

// TestC7New: of a new cluster there is nothing to be seen but its sinks.
func TestC7New(t *testing.T) {
	s := made(t, fork, nil)
	s.has("C7: View", whole(s.View()), "down par [] going 0 done 0 read [] queues [] messages 0 held 0 prepared 0 late 0; x: y:")
	s.has("C7: Newest", fmt.Sprint(s.Newest()), fmt.Sprint(api.Check{}))
	s.has("C7: Up", s.Up(), false)
	s.plays("start 1 1 1 1 1")
	s.has("C7: Up", s.Up(), true)
	s.has("C7: View", whole(s.View()), "up par [1 1 1 1 1] going 0 done 0 read [] queues [0 0 0 0] messages 0 held 0 prepared 0 late 0; x: y:")
	s.plays("crash 0")
	s.has("C7: Up", s.Up(), false)
}

// TestC10Empty: jobs of nothing, or without a sink, come to their end, too.
func TestC10Empty(t *testing.T) {
	s := made(t, "", nil)
	s.has("C10: Finish", s.Finish([]int{1}), false)
	s.has("C10: Finish", s.Finish(nil), true)
	s.has("C10: Up", s.Up(), true)
	s.plays("run 0 0; hear 0; sync; tell 0; crash 1")
	s.has("C10: Up", s.Up(), false)
	s = made(t, "stream s (n int)\nk = s by n in whole", logs(log("s", times(1, 2))))
	s.has("C10: Finish", s.Finish([]int{1, 1, 1}), false)
	s.has("C10: Finish", s.Finish([]int{3, 2}), true)
	s.sees("", "going 0 & done 1 & read [{0 0 3}] & queues [0 0 0 0 0 0]")
}

// TestC10Finish: from where it is, with the messages lost, and the tasks that
// there are.
func TestC10Finish(t *testing.T) {
	const all = "x: 4 1; 8 2; 9 3;"
	for script, done := range map[string]int{
		"start 2 1":                               1,
		"start 1 1; " + begun:                     2,
		"start 1 1; " + begun + "; hear 0":        2,
		"start 1 1; " + written:                   2,
		"start 1 1; mark; mark; run 0 0":          3,
		"start 1 1; mark x5; run 0 0 x9; run 1 0": 6,
		"start 1 1; " + written + "; crash 1":     2,
		"start 1 1; " + written + "; crash 0":     1,
		"start 2 2; run 0 0; crash 0":             1,
	} {
		s := three(t)
		s.plays(script)
		was := s.View().Par
		if s.Up() {
			// It is up: whatever the numbers are.
			s.has("C10: Finish", s.Finish([]int{9}), true)
		} else {
			was = []int{3, 2}
			s.has("C10: Finish", s.Finish(was), true)
		}
		s.has("C10: par", s.View().Par, was)
		s.sees("", fmt.Sprint("going 0 & done ", done, " & messages 0 & held 0 & prepared 0 & read [{0 0 4}]"))
		s.has("C10: table", shown(s.View().Table), all)
		s.plays("mark; run 0 0; crash 0")
		s.has("C10: table", shown(s.View().Table), all)
		s.plays("start 1 4; " + written + "; sync; tell 0; tell 1; crash 0; start 4 1")
		s.has("C10: table", shown(s.View().Table), all)
		s.has("C10: Finish", s.Finish(nil), true)
		s.has("C10: table", shown(s.View().Table), all)
	}
}

// TestC11Par: however many tasks there are, and however often they change.
func TestC11Par(t *testing.T) {
	const text = "stream s (n int) late 2\nstream r (m int)\nj = s outer join r on n = m in slide 6 every 4\nk = j by n in session 3 give count() as c, last(m) as l\nsink x = k\nsink y = s"
	in := logs(log("s", times(1, 4, 3, 12, 9), times(2, 2, 5)), log("r", times(6, 3, 8), nil, times(1)))
	all, err := cluster.Means(text, in, nil)
	if err != nil || len(all[0].Rows) < 5 {
		t.Fatal(err, shown(all))
	}
	for n := range 1 << 12 {
		if n%5 != 0 {
			continue
		}
		var par []int
		for i := range 6 {
			par = append(par, 1+n>>(2*i)&3)
		}
		s := made(t, text, in)
		s.Do(api.Act{Kind: api.ActStart, Par: par})
		tasks := 0
		for _, one := range par {
			tasks += one
		}
		// Half of it is done, with a checkpoint, and then by other tasks.
		for task := range tasks {
			s.plays(fmt.Sprint("run ", task, " 0 x", 1+n%7))
		}
		s.plays("mark")
		for task := range tasks {
			s.plays(fmt.Sprint("run ", task, " 1 x30"))
		}
		s.plays("hear 0 x30; crash 1")
		par[n%6] = 1 + n%4
		s.has("C11: Finish", s.Finish(par), true)
		s.has(fmt.Sprint("C11: ", par), shown(s.View().Table), shown(all))
	}
}

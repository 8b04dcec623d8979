package run_test

import (
	"strings"
	"testing"
)

// straight is a job of a stream and a sink: with one task each, the task of
// the stream is 0, and that of the sink 1.
const straight = "job stream s (n int) late 2\njob sink x = s\nlog s\npart\n"

// tens gives rows of the times 10, 20, .. up to so many, with their numbers.
func tens(from, to int) string {
	var b strings.Builder
	for i := from; i <= to; i++ {
		b.WriteString("row " + digits(i) + "0: " + digits(i) + "\n")
	}
	return b.String()
}

// digits writes a number of at most two digits.
func digits(n int) string {
	if n > 9 {
		return digits(n/10) + digits(n%10)
	}
	return string(rune('0' + n))
}

// last holds the last lines that a session answers against what they should be.
func last(t *testing.T, text, want string) {
	t.Helper()
	l := strings.SplitAfter(answer(text), "\n")
	n := strings.Count(want, "\n")
	if got := strings.Join(l[max(0, len(l)-1-n):], ""); got != want {
		t.Errorf("%q ends with\n%q, want\n%q", text, got, want)
	}
}

// Each of the numbers that are shown is another one here.
func TestR2Show(t *testing.T) {
	text := straight + tens(1, 6) + times(4, "row 1: 0") + "\n" + tens(7, 14) + lines(
		"start 1",
		"mark", "run 0 0", "run 1 0", "hear 0", "hear 0", "sync", // done 1
		times(6, "run 0 0"), times(12, "run 1 0"), // six rows and their times
		"mark", "run 0 0", "run 1 0", "lose 1", // prepared 6, and one message is on its way
		times(4, "run 0 0"),                       // late 4
		times(5, "run 0 0"), times(10, "run 1 0"), // held 5
		times(3, "run 0 0"), "mark", "run 0 0", // three rows, their times and the mark are queued
	)
	last(t, text, "up done 1 going 3 queued 7 messages 2 held 5 prepared 6 late 4\n")
	last(t, text+"show", "up done 1 going 3 queued 7 messages 2 held 5 prepared 6 late 4\n")
	last(t, text+"table", "x 0\n")
	last(t, text+"crash 0", "down done 1 prepared 6\n")
	last(t, text+"crash 0\nstart 3", "up done 1 going 0 queued 0 messages 0 held 0 prepared 0 late 0\n")
	last(t, text+"crash 0\nfinish 3\nshow", lines("true", "up done 2 going 0 queued 0 messages 0 held 0 prepared 0 late 4"))
}

// Messages and choices are taken by their numbers.
func TestR2Acts(t *testing.T) {
	head := straight + "row 1: 1\npart\nrow 9: 2\nstart 1\n"
	// Choice 1 is the second partition, and 3 of two as well: 2 below its row is told at once, when the first one has ended.
	last(t, head+"run 0 1", "up done 0 going 0 queued 1 messages 0 held 0 prepared 0 late 0\n")
	last(t, head+"run 0 0\nrun 0 0\nrun 0 3", "up done 0 going 0 queued 3 messages 0 held 0 prepared 0 late 0\n")
	last(t, head+"run 1 0\nrun 2 0\nrun 0 999999", "up done 0 going 0 queued 1 messages 0 held 0 prepared 0 late 0\n")
	// Both tasks tell; lost is the one that is named.
	told := head + "mark\nrun 0 0\nrun 1 0\n"
	last(t, told, "up done 0 going 1 queued 0 messages 2 held 0 prepared 0 late 0\n")
	last(t, told+"hear 2\nlose 2", times(2, "up done 0 going 1 queued 0 messages 2 held 0 prepared 0 late 0")+"\n")
	last(t, told+"hear 1\nhear 0", lines("up done 0 going 1 queued 0 messages 1 held 0 prepared 0 late 0", upNew))
	last(t, told+"hear 0\nlose 0\nsync", lines("up done 0 going 1 queued 0 messages 1 held 0 prepared 0 late 0", times(2, "up done 0 going 1 queued 0 messages 0 held 0 prepared 0 late 0")))
	last(t, told+"hear 0\nhear 0\nsync\nsync", lines(upNew, times(2, "up done 1 going 0 queued 0 messages 0 held 0 prepared 0 late 0")))
	// Of what was written and not synced, a crash leaves as many files as it says.
	last(t, told+"hear 0\nhear 0\ncrash 1", "down done 1 prepared 0\n")
	last(t, told+"hear 0\nhear 0\ncrash 0", "down done 0 prepared 0\n")
	last(t, told+"hear 0\nhear 0\nsync\ncrash 0", "down done 1 prepared 0\n")
}

// Of two tasks of a sink the one that is named commits what it had prepared.
func TestR2Tell(t *testing.T) {
	text := "job stream s (n int)\njob sink x = s\nlog s\npart\nrow 1: 2\npart\nrow 3: 4\nstart 2\n" +
		lines("run 0 0", "run 1 0", "mark", "run 0 0", "run 1 0", times(6, "run 2 0"), times(6, "run 3 0"), times(4, "hear 0"), "sync")
	const synced = "up done 1 going 0 queued 0 messages 0 held 0 prepared 2 late 0"
	const one = "up done 1 going 0 queued 0 messages 0 held 0 prepared 1 late 0"
	last(t, text+"tell 2\ntable", lines(synced, "x 0"))
	last(t, text+"tell 0\ntable", lines(one, "x 1", "1: 2"))
	last(t, text+"tell 1\ntable", lines(one, "x 1", "3: 4"))
	last(t, text+"tell 1\ntell 0\ntable", lines("up done 1 going 0 queued 0 messages 0 held 0 prepared 0 late 0", "x 2", "1: 2", "3: 4"))
}

func TestR2StartAndFinish(t *testing.T) {
	const up, down = upNew + "\n", downNew + "\n"
	for numbers, ok := range map[string]bool{
		"": false, " 1": true, " 2": true, " 4": true, " 1 1": true, " 4 3": true,
		" 0": false, " 5": false, " 999999": false, " 1 0": false, " 5 1": false, " 1 1 1": false, " 0 0": false,
		strings.Repeat(" 1", 900): false,
	} {
		started, finished := down, "false\n"+down
		if ok {
			started, finished = up, "true\nup done 1 going 0 queued 0 messages 0 held 0 prepared 0 late 0\n"
		}
		answers(t, straight+"start"+numbers, started)
		answers(t, straight+"finish"+numbers+"\nshow", finished)
		answers(t, straight+"start 1\nfinish"+numbers, up+"true\n")
		answers(t, straight+"start 1\nstart"+numbers, up+up)
	}
	// Without nodes, there is none for which a number could be.
	for numbers, want := range map[string]string{"": up, " 1": up, " 0": up, " 999999": up, " 1 1": down} {
		answers(t, "start"+numbers, want)
	}
	answers(t, "finish\nshow\nfinish 7", "true\n"+answer("finish 1\nshow\n")[len("true\n"):]+"true\n")
	// One node: one number is as good for it as for all.
	answers(t, "job stream s (n int)\nstart 3\n", up)
	answers(t, "job stream s (n int)\nstart 3 3\n", down)
}

// How many tasks there are shows by the messages that they tell.
func TestR2StartForAllNodes(t *testing.T) {
	for numbers, tasks := range map[string]int{"1": 2, "3": 6, "4": 8, "2 3": 5, "3 2": 5} {
		var runs strings.Builder
		for range 2 {
			for task := range tasks {
				runs.WriteString(times(8, "run "+digits(task)+" 0") + "\n")
			}
		}
		last(t, straight+"start "+numbers+"\nmark\n"+runs.String(),
			"up done 0 going 1 queued 0 messages "+digits(tasks)+" held 0 prepared 0 late 0\n")
	}
}

func TestR2Table(t *testing.T) {
	const two = "job stream s (n int, t text)\njob w = s where n > 3\njob v = s where n > 9\njob sink y = w\njob sink all = s\njob sink no = v\nlog s\npart\nrow 5: 6, 'b'\nrow 5: 6, 'a'\nrow 5: 6, 'a'\nrow 7: 2, null\n"
	const full = "y 3\n5: 6, 'a'\n5: 6, 'a'\n5: 6, 'b'\nall 4\n5: 6, 'a'\n5: 6, 'a'\n5: 6, 'b'\n7: 2, null\nno 0\n"
	const empty = "y 0\nall 0\nno 0\n"
	answers(t, two+"means\ntable\nmeans", full+empty+full)
	answers(t, two+"table\nfinish 1\ntable\ncrash 0\ntable\nfinish 4\ntable", empty+"true\n"+full+"down done 1 prepared 0\n"+full+"true\n"+full)
	// Without sinks, nothing comes out.
	answers(t, "table\nmeans\nfinish\ntable\nmeans", "true\n")
	answers(t, "job stream s (n int)\nlog s\npart\nrow 1: 2\nmeans\ntable\nshow", downNew+"\n")
}

// What the document names of the whole, by text.
func TestR2Examples(t *testing.T) {
	answers(t,
		"job stream s (who text)\njob n = s by who in tumble 10 give count() as c\njob sink x = n\nlog s\npart\nrow 3: 'a'\nrow 7: 'a'\nrow 12: 'a'\nmeans\nfinish 2\ntable",
		lines("x 2", "9: 'a', 2", "19: 'a', 1", "true", "x 2", "9: 'a', 2", "19: 'a', 1"))
	last(t,
		"job stream s (who text) late 5\njob sink x = s\nlog s\npart\nrow 20: 'a'\nrow 15: 'b'\nrow 14: 'c'\nstart 1\nrun 0 0\nrun 0 0\nrun 0 0\nfinish\ntable\nshow",
		lines("up done 0 going 0 queued 3 messages 0 held 0 prepared 0 late 1", "true", "x 2", "15: 'b'", "20: 'a'", "up done 1 going 0 queued 0 messages 0 held 0 prepared 0 late 1"))
	text := straight + tens(1, 3) + lines("start 1", "run 0 0", "run 1 0", "mark", times(2, "run 0 0"), times(9, "run 1 0"), "hear 0", "hear 0")
	last(t, text, "up done 0 going 0 queued 0 messages 0 held 1 prepared 1 late 0\n")
	last(t, text+"crash 0\nstart 1\ntable\nfinish 1\ntable", lines("down done 0 prepared 1", upNew, "x 0", "true", "x 3", "10: 1", "20: 2", "30: 3"))
	last(t, text+"sync\ncrash 0\nstart 1\ntable\nfinish 1\ntable", lines("down done 1 prepared 1", "up done 1 going 0 queued 0 messages 0 held 0 prepared 0 late 0", "x 1", "10: 1", "true", "x 3", "10: 1", "20: 2", "30: 3"))
}

package run_test

import (
	"strings"
	"testing"

	"streamwright/run"
)

// lines gives a text of lines, each with a newline behind it.
func lines(l ...string) string { return strings.Join(l, "\n") + "\n" }

// times gives a line so many times.
func times(n int, line string) string { return strings.TrimSuffix(strings.Repeat(line+"\n", n), "\n") }

// answers holds what a session answers against what it should.
func answers(t *testing.T, text, want string) {
	t.Helper()
	if got := run.Session(text); got != want {
		t.Errorf("%q is answered\n%q, want\n%q", text, got, want)
	}
}

const (
	downNew = "down done 0 prepared 0"
	upNew   = "up done 0 going 0 queued 0 messages 0 held 0 prepared 0 late 0"
)

func TestR2Lines(t *testing.T) {
	for _, c := range []struct{ text, want string }{
		{"", ""},
		{"\n", "bad\n"},
		{"\n\n", "bad\nbad\n"},
		{"show", downNew + "\n"},
		{"show\n", downNew + "\n"},
		{"show\n\nshow", lines(downNew, "bad", downNew)},
		{" ", "bad\n"},
		{" show", "bad\n"},
		{"show ", "bad\n"},
		{"show\r\nshow\t", "bad\nbad\n"},
		{"Show\nSHOW\nshows\nsho\nup", times(5, "bad") + "\n"},
		{"\x00\n\xff\n'\n#", times(4, "bad") + "\n"},
		{"1\n1 2\n0", times(3, "bad") + "\n"},
		{"run mark\nmark mark\nshow table", times(3, "bad") + "\n"},
		{"act 1\nnew\nnewest\nview\nup 1", times(5, "bad") + "\n"},
	} {
		answers(t, c.text, c.want)
	}
}

func TestR2TooLong(t *testing.T) {
	long := strings.Repeat("x", 19996)
	for _, c := range []struct{ text, want string }{
		{strings.Repeat("\n", 1000), strings.Repeat("bad\n", 1000)},
		{strings.Repeat("\n", 1001), "too long\n"},
		{strings.Repeat("\n", 1000) + "x", "too long\n"},
		{strings.Repeat("\n", 999) + "x", strings.Repeat("bad\n", 1000)},
		{strings.Repeat("job\n", 1000), ""},
		{strings.Repeat("job\n", 1001), "too long\n"},
		{long + "\nxxx", "bad\nbad\n"},
		{long + "\nxxxx", "too long\n"},
		{long + "xxx\n", "bad\n"},
		{long + "xxxx\n", "too long\n"},
		{"job " + long, ""},
		{"job " + long + "x", "too long\n"},
		{"show\n" + strings.Repeat("x", 1<<20), "too long\n"},
		{strings.Repeat("\n", 1<<20), "too long\n"},
	} {
		answers(t, c.text, c.want)
	}
}

// What is said ahead of a cluster has no answer, whatever it is; what comes of it shows later.
func TestR2Plan(t *testing.T) {
	for _, c := range []struct{ text, want string }{
		{"job stream s (n int)\njob sink x = s\nlog s\npart\nrow 4: 7\nrow 3: 8", ""},
		{"job stream s (n int)\njob sink x = s\nlog s\npart\nrow 3: 7\nrow 4: 8\npart\nrow 1: 9\nmeans", lines("x 3", "1: 9", "3: 7", "4: 8")},
		// In any order, and each line goes to what began last.
		{"log s\npart\nrow 3: 7\njob stream s (n int)\nlog r\npart\njob sink x = s\nrow 4: true\njob stream r (b bool)\npart\njob sink y = r\nrow 5: false\nmeans", lines("x 1", "3: 7", "y 2", "4: true", "5: false")},
		// A job is cut into lines again, where its lines are; what is blank or behind a # says nothing.
		{"job # all of it\njob\njob \njob stream s (n int) # in\njob   sink x = s # out\nmeans", "x 0\n"},
		{"job stream s\njob (n int)\nmeans", "ErrSyntax\n"},
		{"job stream s (n int) sink x = s\nmeans", "ErrSyntax\n"},
		// A name is all that stands there.
		{"job stream s (n int)\nlog s \nmeans", "ErrName\n"},
		{"job stream s (n int)\nlog  s\nmeans", "ErrName\n"},
		{"job stream s (n int)\nlog s s\nmeans", "ErrName\n"},
		{"job stream s (n int)\nlog 's'\nmeans", "ErrName\n"},
		{"job stream s (n int)\nlog\nmeans", "ErrName\n"},
		{"job stream s (n int)\nlog s\nmeans\nlog s\nmeans", "ErrName\n"},
		// A text has all bytes but the newline.
		{"job stream s (t text)\njob sink x = s\nlog s\npart\nrow 1: 'row 2: 3, \\0a'\nrow 2: ' part'\nmeans", lines("x 2", "1: 'row 2: 3, \\0a'", "2: ' part'")},
	} {
		answers(t, c.text, c.want)
	}
}

func TestR2LinesThatAreNoPlan(t *testing.T) {
	for _, c := range []struct{ text, want string }{
		{"part", "bad\n"},
		{"row 1: 2", "bad\n"},
		{"row x", "bad\n"},
		{"row", "bad\n"},
		{"job\npart\nrow 1: 2", "bad\nbad\n"},
		{"log s\nrow 1: 2", "bad\n"},
		{"log s\nrow x", "bad\n"},
		{"log s\npart\nrow 1: 2\nlog r\nrow 1: 2\nrow x", "bad\nbad\n"},
		{"log s\npart \nrow 1: 2\nrow x", "ErrSyntax\n"}, // nothing stands behind the first space
		{"log s\npart 1\npart x\npart  \npart part\nrow 1: 2", times(5, "bad") + "\n"},
		{"log s\npart\npart 1\nrow x\nrow\nrow \nrow  1: 2\nrow 1: 2 \nrow 1: 2,\nrow 01: 2\nrow 1:", "bad\n" + times(7, "ErrSyntax") + "\n"},
		{"jobs\njob2 x\nlogs s\nparts\nrows 1: 2\nJob x", times(6, "bad") + "\n"},
	} {
		answers(t, c.text, c.want)
	}
}

// A row that is not read is not there; the lines behind it go on where it was.
func TestR2RowsThatAreNotRead(t *testing.T) {
	answers(t,
		"job stream s (n int)\njob sink x = s\nlog s\npart\nrow 1: 2\nrow 3: 4,\nrow 5: 6\nrow 1099511627777: 8\nmeans\ntable",
		lines("ErrSyntax", "ErrSyntax", "x 2", "1: 2", "5: 6", "x 0"))
}

func TestR2Faults(t *testing.T) {
	stream := "job stream s (n int)\nlog s\npart\n"
	for _, c := range []struct{ text, want string }{
		{"job x\n", "ErrSyntax"},
		{"job sink x = s\n", "ErrName"},
		{"job stream s (n int)\njob w = s where n\n", "ErrType"},
		{"job stream s (n int) late 9999999\n", "ErrRange"},
		{"job #" + strings.Repeat("x", 3000) + "\n", "ErrFull"},
		{"log s\n", "ErrName"},
		{stream + "row 1: true\n", "ErrRange"},
		{stream + "row 1:\n", "ErrRange"},
		{stream + "row 1: 1, 2\n", "ErrRange"},
		{stream + times(101, "row 1: 1") + "\n", "ErrFull"},
		{stream + times(6, "part") + "\n", "ErrFull"},
		{stream + "log s\n", "ErrName"},
		{"job " + strings.Repeat("#", 1500) + "\njob " + strings.Repeat("#", 1500) + "\n", "ErrFull"},
	} {
		for _, order := range []string{"means", "show", "table", "start", "start 1", "finish", "finish 1 2 3", "mark", "sync", "run 0 0", "hear 0", "lose 0", "tell 0", "crash 0"} {
			answers(t, c.text+order, c.want+"\n")
		}
	}
	for _, c := range []struct{ text, want string }{
		{stream + times(100, "row 1: 1") + "\n", downNew},
		{stream + times(5, "part") + "\n", downNew},
		{"job " + strings.Repeat("#", 1500) + "\njob " + strings.Repeat("#", 1499) + "\n", downNew},
	} {
		answers(t, c.text+"show", c.want+"\n")
	}
}

// Behind a fault there is no cluster: more can be said, and it is asked anew.
func TestR2BehindAFault(t *testing.T) {
	answers(t,
		"job sink x = s\nshow\nmark 1\nmark x\nmeans\nmeans 1\nfoo\nfinish 1\n",
		lines("ErrName", "ErrName", "bad", "ErrName", "bad", "bad", "ErrName"))
	answers(t,
		"log s\npart\nshow\nrow 1: 2\nmeans\njob stream s (n int)\ntable\njob sink x = s\nfinish 1\ntable\nmeans",
		lines("ErrName", "ErrName")+lines("bad", "true"))
	answers(t,
		"log s\npart\nshow\nrow 1: 2\nmeans\njob stream s (n int)\njob sink x = s\nfinish 1\ntable\nmeans",
		lines("ErrName", "ErrName", "true", "x 1", "1: 2", "x 1", "1: 2"))
}

// makes tells whether a line makes a cluster: behind it no line of a plan is one.
func makes(line string) bool {
	const plan = "job stream s (n int)\nlog s\npart\n"
	return strings.HasSuffix(run.Session(plan+line+"\nrow 1: 2"), "bad\n") && strings.HasSuffix(run.Session(plan+line+"\nrow x"), "bad\n")
}

func TestR2WhatMakesACluster(t *testing.T) {
	for _, line := range []string{
		"run 0 0", "mark", "hear 0", "lose 0", "sync", "tell 0", "crash 0", "start", "start 1", "start 9 9", "finish", "finish 0", "finish 1", "show", "table",
		// Other numbers than it takes are bad behind the making.
		"run", "run 1", "run 1 2 3", "mark 1", "mark 1 2", "hear", "hear 1 2", "lose", "lose 1 2", "sync 0", "tell", "tell 1 2", "crash", "crash 0 0", "show 0", "table 1",
	} {
		if !makes(line) {
			t.Errorf("%q makes no cluster", line)
		}
	}
	for _, line := range []string{
		"means", "means 1", "means x", "job", "job #", "row 1: 3", "part", "part 1", "row x", "", " ", "x", "foo", "foo 1", "1",
		"run 0 x", "run 0 0 ", "run  0 0", "run 0  0", "run 01 0", "mark x", "mark ", "hear -1", "hear 1000000", "lose +1", "sync x", "tell 1.0", "crash null", "crash 'a'",
		"start x", "start 1 x", "start 1 ", "finish 01", "show x", "show ", "table  ", "table x", " show", "show\t",
	} {
		if makes(line) {
			t.Errorf("%q makes a cluster", line)
		}
	}
}

// Where there is a cluster, the lines of a plan are other lines.
func TestR2PlanBehindTheMaking(t *testing.T) {
	answers(t,
		"job stream s (n int)\njob sink x = s\nlog s\npart\nrow 1: 2\ntable\njob sink y = s\njob\nlog r\nlog s\npart\nrow 1: 3\nrow x\nrow\nmeans\nfinish 1\ntable",
		"x 0\n"+times(8, "bad")+"\n"+lines("x 1", "1: 2", "true", "x 1", "1: 2"))
}

func TestR2Numbers(t *testing.T) {
	good, wrong := downNew+"\n", "bad\n"
	for number, want := range map[string]string{
		"0": good, "9": good, "10": good, "100000": good, "999999": good,
		"": wrong, "00": wrong, "01": wrong, "000001": wrong, "1000000": wrong, "0999999": wrong, "9999999": wrong, "99999999999999999999": wrong,
		"-1": wrong, "-0": wrong, "+1": wrong, "1.0": wrong, "1e3": wrong, "0x1": wrong, "1_0": wrong, "1,": wrong, "a": wrong,
		" 1": wrong, "1 ": wrong, "1\t": wrong, "1\r": wrong, "٣": wrong, "null": wrong, "true": wrong, "'1'": wrong,
	} {
		answers(t, "hear "+number, want)
		answers(t, "run 1 "+number, want)
		answers(t, "run "+number+" 1", want)
		answers(t, "start 1 "+number, want)
	}
	answers(t, "run  1\nrun 1 2\t\nrun 1  2\nrun 1\t2\nrun\t1 2", times(5, "bad")+"\n")
}

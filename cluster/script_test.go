package cluster_test

import (
	"fmt"
	"slices"
	"strconv"
	"strings"
	"testing"

	"streamwright/api"
	"streamwright/cluster"
)

// kinds has the acts by the words that scripts have for them.
var kinds = []string{"", "run", "mark", "hear", "lose", "sync", "tell", "crash", "start"}

// actOf reads an act, as "run 0 3" or "start 1 1 2".
func actOf(t *testing.T, words []string) api.Act {
	t.Helper()
	a := api.Act{Kind: slices.Index(kinds, words[0])}
	var numbers []int
	for _, w := range words[1:] {
		n, err := strconv.Atoi(w)
		if err != nil {
			t.Fatalf("%q is no act", words)
		}
		numbers = append(numbers, n)
	}
	switch {
	case a.Kind == api.ActStart:
		a.Par = numbers
	case len(numbers) == 2:
		a.A, a.B = numbers[0], numbers[1]
	case len(numbers) == 1:
		a.A = numbers[0]
	}
	if a.Kind < 1 {
		t.Fatalf("%q is no act", words)
	}
	return a
}

// stage is a cluster that is played with.
type stage struct {
	*testing.T
	*cluster.Cluster
}

// made gives a cluster.
func made(t *testing.T, text string, in []api.Log) stage {
	t.Helper()
	c, err := cluster.New(text, in)
	if err != nil {
		t.Fatalf("New(%q, %v): %v", text, in, err)
	}
	return stage{t, c}
}

// plays does acts, with ";" between them; "x5" behind one does it five times.
func (s stage) plays(script string) {
	s.Helper()
	for one := range strings.SplitSeq(script, ";") {
		words := strings.Fields(one)
		times := 1
		if n, err := strconv.Atoi(strings.TrimPrefix(words[len(words)-1], "x")); err == nil && strings.HasPrefix(words[len(words)-1], "x") {
			times, words = n, words[:len(words)-1]
		}
		for range times {
			s.Do(actOf(s.T, words))
		}
	}
}

// whole writes a View, all of it.
func whole(v api.View) string {
	state := "down"
	if v.Up {
		state = "up"
	}
	return fmt.Sprintf("%s par %v going %d done %d read %v queues %v messages %d held %d prepared %d late %d; %s",
		state, v.Par, v.Going, v.Done, v.Offsets, v.Queues, v.Messages, v.Held, v.Prepared, v.Late, shown(v.Table))
}

// sees plays a script, and holds what is seen then against what should be:
// words of the form "queues [1 0]" (as whole writes them), with "&" between.
func (s stage) sees(script, want string) {
	s.Helper()
	if script != "" {
		s.plays(script)
	}
	got := whole(s.View())
	for one := range strings.SplitSeq(want, " & ") {
		if !strings.Contains(" "+got+" ", " "+one+" ") && !strings.Contains(got, one+";") {
			s.Errorf("behind %q: %s, want %s", script, got, want)
		}
	}
}

// has holds something against what it should be.
func (s stage) has(what string, got, want any) {
	s.Helper()
	if fmt.Sprint(got) != fmt.Sprint(want) {
		s.Errorf("%s: %v, want %v", what, got, want)
	}
}

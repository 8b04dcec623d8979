// Package run has all of it, by text: see doc/15-run.md.
package run

import (
	"errors"
	"strconv"
	"strings"

	"streamwright/api"
	"streamwright/cluster"
	"streamwright/job"
)

// What a session may have.
const (
	maxBytes = 20000
	maxLines = 1000
)

// errBad says that a line is none that can stand where it stands.
var errBad = errors.New("bad")

// session is what the lines so far have led to.
type session struct {
	plan    plan
	cluster *cluster.Cluster // nil: there is none
	nodes   int              // of its job
	answers strings.Builder
}

// Session answers a text, line by line.
func Session(text string) string {
	var s session
	if tooLong(text) {
		s.say("too long")
		return s.answers.String()
	}
	for _, line := range linesOf(text) {
		if err := s.do(line); err != nil {
			s.say(told(err))
		}
	}
	return s.answers.String()
}

// tooLong tells whether a text is more than a session may have.
func tooLong(text string) bool {
	return len(text) > maxBytes || len(linesOf(text)) > maxLines
}

// linesOf cuts a text into lines.
func linesOf(text string) []string {
	lines := strings.Split(text, "\n")
	if last := len(lines) - 1; lines[last] == "" {
		return lines[:last]
	}
	return lines
}

// told gives what is answered where something is wrong: the fault's name, if
// it has one.
func told(err error) string {
	var fault api.Errno
	if errors.As(err, &fault) {
		return fault.Error()
	}
	return errBad.Error()
}

// say answers a line.
func (s *session) say(line string) {
	s.answers.WriteString(line)
	s.answers.WriteByte('\n')
}

// do does what a line says.
func (s *session) do(line string) error {
	if s.cluster == nil {
		if ok, err := s.plan.take(line); ok {
			return err
		}
	}
	o, ok := orderOf(line)
	if !ok {
		return errBad
	}
	if o.word != "means" {
		if err := s.makeCluster(); err != nil {
			return err
		}
	}
	if !o.fits() {
		return errBad
	}
	return s.obey(o)
}

// makeCluster makes the cluster, if there is none.
func (s *session) makeCluster() error {
	if s.cluster != nil {
		return nil
	}
	text := s.plan.job()
	c, err := cluster.New(text, s.plan.logs)
	if err != nil {
		return err
	}
	j, _, err := job.Parse(text)
	if err != nil {
		return err
	}
	s.cluster, s.nodes = c, len(j.Nodes)
	return nil
}

// obey does what an order says, and answers it.
func (s *session) obey(o order) error {
	switch o.word {
	case "means":
		return s.sayMeans()
	case "finish":
		s.say(strconv.FormatBool(s.cluster.Finish(o.par(s.nodes))))
	case "table":
		s.saySunk(s.cluster.View().Table)
	case "show":
		s.sayView()
	default:
		s.cluster.Do(o.actOf(s.nodes))
		s.sayView()
	}
	return nil
}

// sayMeans answers what the job means, when all is read.
func (s *session) sayMeans() error {
	l, err := cluster.Means(s.plan.job(), s.plan.logs, nil)
	if err != nil {
		return err
	}
	s.saySunk(l)
	return nil
}

// saySunk answers what comes out by each sink.
func (s *session) saySunk(l []api.Sunk) {
	for _, sunk := range l {
		s.say(sunk.Sink + " " + strconv.Itoa(len(sunk.Rows)))
		for _, r := range sunk.Rows {
			s.say(Show(r))
		}
	}
}

// sayView answers how the cluster is.
func (s *session) sayView() {
	v := s.cluster.View()
	if !v.Up {
		s.say(counts("down", count{"done", v.Done}, count{"prepared", v.Prepared}))
		return
	}
	queued := 0
	for _, n := range v.Queues {
		queued += n
	}
	s.say(counts("up",
		count{"done", v.Done}, count{"going", v.Going}, count{"queued", queued},
		count{"messages", v.Messages}, count{"held", v.Held},
		count{"prepared", v.Prepared}, count{"late", v.Late}))
}

// count is how many there are of something.
type count struct {
	name string
	many int
}

// counts writes a word, and how many there are of each.
func counts(word string, l ...count) string {
	for _, c := range l {
		word += " " + c.name + " " + strconv.Itoa(c.many)
	}
	return word
}

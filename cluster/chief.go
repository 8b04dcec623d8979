package cluster

import (
	"cmp"
	"slices"

	"streamwright/api"
)

// message is what a task tells the chief when a mark comes through it.
type message struct {
	task    int // of all tasks
	mark    int
	offsets []api.Offset // how far its partitions were read
	pieces  []api.Held   // what its operator keeps
}

// chief puts checkpoints together of what tasks tell.
type chief struct {
	tasks  int       // so many are to be heard
	begun  int       // the last mark that was begun
	going  int       // the mark that is on its way; 0: none
	done   int       // the last checkpoint that is complete
	coming []message // on their way
	heard  []message // of the mark that is on its way
}

// begin gives the mark of a new checkpoint, which is going from then on.
func (c *chief) begin() int {
	c.begun++
	c.going, c.heard = c.begun, nil
	return c.begun
}

// tell lets a message be on its way.
func (c *chief) tell(m message) { c.coming = append(c.coming, m) }

// lose forgets a message that is on its way.
func (c *chief) lose(at int) {
	if c.comes(at) {
		c.coming = slices.Delete(c.coming, at, at+1)
	}
}

// comes tells whether there is a message of this number on its way.
func (c *chief) comes(at int) bool { return at >= 0 && at < len(c.coming) }

// loseAll forgets all messages that are on their way.
func (c *chief) loseAll() { c.coming = nil }

// hear takes a message that is on its way; true: with it all tasks were heard,
// and this is the checkpoint.
func (c *chief) hear(at int) (api.Check, bool) {
	if !c.comes(at) {
		return api.Check{}, false
	}
	m := c.coming[at]
	c.lose(at)
	if m.mark != c.going {
		return api.Check{}, false
	}
	c.heard = append(c.heard, m)
	if len(c.heard) < c.tasks {
		return api.Check{}, false
	}
	k := gathered(c.heard)
	c.going, c.heard = 0, nil
	return k, true
}

// gathered gives the checkpoint that messages of one mark tell of, task by
// task.
func gathered(l []message) api.Check {
	var k api.Check
	slices.SortFunc(l, func(a, b message) int { return cmp.Compare(a.task, b.task) })
	for _, m := range l {
		k.Mark = m.mark
		k.Offsets = append(k.Offsets, m.offsets...)
		k.Pieces = append(k.Pieces, m.pieces...)
	}
	return k
}

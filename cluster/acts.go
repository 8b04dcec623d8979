package cluster

import (
	"strconv"

	"streamwright/api"
	"streamwright/spread"
)

// start lets a crew of so many tasks a node go on from the newest checkpoint
// that is whole; nothing happens, if there cannot be so many.
func (c *Cluster) start(par []int) {
	g, err := spread.Expand(c.in.job, par)
	if err != nil {
		return
	}
	k := c.keepNewest()
	for _, x := range c.table.Prepared() {
		if x.Mark <= k.Mark {
			c.table.Commit(x)
		} else {
			c.table.Abort(x)
		}
	}
	c.crew = newCrew(c.in, g, k, c.table)
}

// hear lets the chief hear a message; a checkpoint of which it has heard all
// is written.
func (c *Cluster) hear(at int) {
	if k, ok := c.crew.chief.hear(at); ok {
		// A mark is begun once, and a start removes what others have left of
		// it: there is no such file.
		_ = c.disk.Write(strconv.Itoa(k.Mark), fileOf(k))
	}
}

// sync makes the newest checkpoint the one that is done.
func (c *Cluster) sync() {
	c.disk.Sync()
	c.crew.chief.done = c.keepNewest().Mark
}

// keepNewest gives the newest checkpoint that is whole on the disk, and
// removes all other files.
func (c *Cluster) keepNewest() api.Check {
	k, kept := newest(c.disk)
	for _, name := range c.disk.Names() {
		if name != kept {
			c.disk.Remove(name)
		}
	}
	return k
}

// tell lets a sink's task commit what the checkpoint that is done has behind
// it.
func (c *Cluster) tell(at int) {
	if at < 0 || at >= len(c.crew.sinks) {
		return
	}
	one := c.crew.sinks[at]
	for _, x := range c.table.Prepared() {
		if x == one.tx(x.Mark) && x.Mark <= c.crew.chief.done {
			c.table.Commit(x)
		}
	}
}

// crash leaves the table, and what is there of the disk.
func (c *Cluster) crash(whole int) {
	c.disk.Crash(whole)
	c.crew = nil
}

package cluster

import (
	"slices"

	"streamwright/api"
)

// View shows it.
func (c *Cluster) View() api.View {
	v := api.View{Prepared: c.table.Waiting(), Table: c.sunk()}
	if !c.Up() {
		v.Done = c.Newest().Mark
		return v
	}
	c.crew.show(&v)
	return v
}

// sunk gives the rows of each sink that are seen.
func (c *Cluster) sunk() []api.Sunk {
	var l []api.Sunk
	for _, n := range c.in.job.Nodes {
		if n.Op.Kind == api.OpSink {
			l = append(l, api.Sunk{Sink: n.Name, Rows: c.table.Rows(n.Name)})
		}
	}
	return l
}

// show writes what is to be seen of a crew.
func (c *crew) show(v *api.View) {
	v.Up = true
	v.Par = slices.Clone(c.net.graph.Par)
	v.Going, v.Done, v.Messages = c.chief.going, c.chief.done, len(c.chief.coming)
	for _, f := range c.streams {
		v.Offsets = append(v.Offsets, f.offsets()...)
		v.Late += f.late()
	}
	for _, q := range c.net.queues {
		v.Queues = append(v.Queues, len(q))
	}
	for _, h := range c.sinks {
		v.Held += len(h.rows)
	}
}

// Newest gives the newest checkpoint that is whole on the disk; Mark 0: there is none.
func (c *Cluster) Newest() api.Check {
	k, _ := newest(c.disk)
	return k
}

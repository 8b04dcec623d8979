package cluster

import (
	"streamwright/api"
	"streamwright/gate"
)

// doorWidth is how many channels a Gate takes at most.
const doorWidth = 64

// doors let elements of channels in as one Gate would, if it took so many: a
// union of many inputs can have more channels to a task. What goes on of each
// lot of channels comes by a channel of its own into the last Gate.
type doors struct {
	lots []*gate.Gate
	last *gate.Gate
}

// newDoors makes them for so many channels, one at least.
func newDoors(channels int) doors {
	var d doors
	for ; channels > 0; channels -= doorWidth {
		d.lots = append(d.lots, newGate(min(channels, doorWidth)))
	}
	d.last = newGate(len(d.lots))
	return d
}

// newGate makes a Gate of a number of channels that it takes. (Of a union's
// inputs there are never so many that the lots would be too many: their
// weights are bounded.)
func newGate(channels int) *gate.Gate {
	g, _ := gate.New(channels)
	return g
}

// open tells whether an element of a channel may be let in: while its lot
// waits with a mark, all channels of the lot do.
func (d doors) open(channel int) bool {
	lot := channel / doorWidth
	return d.last.Open(lot) && d.lots[lot].Open(channel%doorWidth)
}

// take lets an element of an open channel in: what goes on.
func (d doors) take(channel int, e api.Elem) []api.Elem {
	lot := channel / doorWidth
	// Tasks send ascending times, and all marks in one order: nothing goes
	// wrong here.
	through, _ := d.lots[lot].Take(channel%doorWidth, e)
	var l []api.Elem
	for _, one := range through {
		on, _ := d.last.Take(lot, one)
		l = append(l, on...)
	}
	return l
}

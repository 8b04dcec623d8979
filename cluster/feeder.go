package cluster

import (
	"streamwright/api"
	"streamwright/source"
)

// feeder is a task of a stream.
type feeder struct {
	post
	parts []part
	out   outlet
	told  int64 // the time that was sent last
	asked []int // marks that are to be sent
}

// part is a partition.
type part struct {
	*source.Reader
	number int
}

func (f *feeder) goOn(choice int) bool {
	if len(f.asked) > 0 {
		f.tellTime()
		f.sendMark()
		return true
	}
	left := f.left()
	if len(left) == 0 {
		return f.tellTime()
	}
	for _, e := range left[choice%len(left)].Take() {
		// The times of a partition are none of the task's.
		if e.Kind == api.ElemRow {
			f.out.put(e)
		}
	}
	f.tellTime()
	return true
}

// left gives the partitions of which not all was read.
func (f *feeder) left() []part {
	var l []part
	for _, one := range f.parts {
		if !one.Ended() {
			l = append(l, one)
		}
	}
	return l
}

// tellTime sends the time; false: it is none that was not sent.
func (f *feeder) tellTime() bool {
	time := int64(api.Forever)
	for _, one := range f.parts {
		time = min(time, one.Time())
	}
	if time <= f.told {
		return false
	}
	f.told = time
	f.out.put(api.Elem{Kind: api.ElemTime, Time: time})
	return true
}

// sendMark sends the first mark that it was asked for.
func (f *feeder) sendMark() {
	mark := f.asked[0]
	f.asked = f.asked[1:]
	f.out.put(api.Elem{Kind: api.ElemMark, Mark: mark})
	f.chief.tell(message{task: f.at, mark: mark, offsets: f.offsets()})
}

// offsets tells how far the partitions were read.
func (f *feeder) offsets() []api.Offset {
	var l []api.Offset
	for _, one := range f.parts {
		l = append(l, api.Offset{Node: f.node, Part: one.number, At: one.At()})
	}
	return l
}

// late tells how many rows came too late.
func (f *feeder) late() int {
	n := 0
	for _, one := range f.parts {
		n += one.Late()
	}
	return n
}

package cluster

import "streamwright/api"

// task does a part of a node's work.
type task interface {
	// goOn does what comes next, by a choice; false: there was nothing to do.
	goOn(choice int) bool
}

// post is which task one is, and whom it tells.
type post struct {
	at     int // of all tasks
	node   int
	number int // of the node's tasks
	chief  *chief
}

// outlet is where elements that come out of a task go.
type outlet interface {
	put(e api.Elem)
}

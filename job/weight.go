package job

import "streamwright/api"

// Weight tells how many rows each node can be made to give out.
func Weight(j api.Job) []int {
	var l []int
	for _, n := range j.Nodes {
		l = append(l, weight(n, l))
	}
	return l
}

// weight of a node, by those of the nodes ahead of it.
func weight(n api.Node, ahead []int) int {
	// What is no node ahead can be made to give out nothing.
	of := func(input int) int {
		if input < len(n.Inputs) && n.Inputs[input] >= 0 && n.Inputs[input] < len(ahead) {
			return ahead[n.Inputs[input]]
		}
		return 0
	}
	switch n.Op.Kind {
	case api.OpSource:
		return api.MaxRows
	case api.OpWindow:
		return of(0) * windowsOfTime(n.Op.Windows)
	case api.OpJoin:
		return of(0) * of(1) * windowsOfTime(n.Op.Windows)
	}
	sum := 0
	for i := range n.Inputs {
		sum += of(i)
	}
	return sum
}

// windowsOfTime tells how many windows a time can be in.
func windowsOfTime(w api.Windows) int {
	if w.Kind != api.Slide {
		return 1
	}
	if w.Step < 1 { // only of a job that Parse did not give
		return 0
	}
	n := int(w.Size / w.Step)
	if w.Size%w.Step > 0 {
		n++
	}
	return n
}

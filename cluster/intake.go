package cluster

import (
	"slices"

	"streamwright/api"
	"streamwright/job"
	"streamwright/source"
	"streamwright/tuple"
	"streamwright/value"
)

// intake is a job, and what comes in.
type intake struct {
	job   api.Job
	parts [][]*source.Reader // of each node; only streams have any
}

// taken gives a job with what comes in, if both may be so.
func taken(text string, logs []api.Log) (intake, error) {
	j, _, err := job.Parse(text)
	if err != nil {
		return intake{}, err
	}
	in := intake{job: j, parts: make([][]*source.Reader, len(j.Nodes))}
	for i, l := range logs {
		at := streamOf(j, l)
		if at < 0 || slices.ContainsFunc(logs[:i], func(other api.Log) bool { return other.Stream == l.Stream }) {
			return intake{}, api.ErrName
		}
		if err := faultOf(l, j.Nodes[at].Columns); err != nil {
			return intake{}, err
		}
		in.parts[at] = readers(l, j.Nodes[at].Bound)
	}
	return in, nil
}

// streamOf tells the place of the stream by which a log comes in; below 0,
// if there is none.
func streamOf(j api.Job, l api.Log) int {
	return slices.IndexFunc(j.Nodes, func(n api.Node) bool {
		return n.Op.Kind == api.OpSource && n.Name == l.Stream
	})
}

// faultOf tells what is wrong with the rows of a log: one that may not be
// counts ahead of too many.
func faultOf(l api.Log, cols []api.Column) error {
	rows := 0
	for _, part := range l.Parts {
		for _, r := range part {
			if !value.ValidRow(r) || !tuple.Fits(r.Values, cols) {
				return api.ErrRange
			}
		}
		rows += len(part)
	}
	if rows > api.MaxRows || len(l.Parts) > api.MaxParts {
		return api.ErrFull
	}
	return nil
}

// readers gives one for each partition of a log in which nothing is wrong.
func readers(l api.Log, bound int64) []*source.Reader {
	var out []*source.Reader
	for _, part := range l.Parts {
		// Both the rows and the bound were looked at: nothing goes wrong here.
		r, _ := source.New(part, bound)
		out = append(out, r)
	}
	return out
}

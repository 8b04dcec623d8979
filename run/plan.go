package run

import (
	"strings"

	"streamwright/api"
)

// plan is what a cluster is to be made of.
type plan struct {
	lines []string // of the job
	logs  []api.Log
}

// job gives the text of the job.
func (p *plan) job() string { return strings.Join(p.lines, "\n") }

// take puts in what a line says; false: it is no line of a plan.
func (p *plan) take(line string) (bool, error) {
	word, rest, _ := strings.Cut(line, " ")
	switch word {
	case "job":
		p.lines = append(p.lines, rest)
	case "log":
		p.logs = append(p.logs, api.Log{Stream: rest})
	case "part":
		log := p.lastLog()
		if log == nil || rest != "" {
			return false, nil
		}
		log.Parts = append(log.Parts, nil)
	case "row":
		part := p.lastPart()
		if part == nil {
			return false, nil
		}
		r, err := Row(rest)
		if err != nil {
			return true, err
		}
		*part = append(*part, r)
	default:
		return false, nil
	}
	return true, nil
}

// lastLog gives the log that began last; nil: none did.
func (p *plan) lastLog() *api.Log {
	if len(p.logs) == 0 {
		return nil
	}
	return &p.logs[len(p.logs)-1]
}

// lastPart gives the rows of the partition that began last in the last log;
// nil: none did.
func (p *plan) lastPart() *[]api.Row {
	log := p.lastLog()
	if log == nil || len(log.Parts) == 0 {
		return nil
	}
	return &log.Parts[len(log.Parts)-1]
}

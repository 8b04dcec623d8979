package run

import (
	"slices"
	"strings"

	"streamwright/api"
	"streamwright/value"
)

// anyMany numbers: as many as there are.
const anyMany = -1

// maxDigits of a number in a line.
const maxDigits = 6

// words are those that a line with numbers can begin with.
var words = [...]struct {
	word  string
	takes int // numbers
	act   int // 0: it is no act
}{
	{"run", 2, api.ActRun},
	{"mark", 0, api.ActMark},
	{"hear", 1, api.ActHear},
	{"lose", 1, api.ActLose},
	{"sync", 0, api.ActSync},
	{"tell", 1, api.ActTell},
	{"crash", 1, api.ActCrash},
	{"start", anyMany, api.ActStart},
	{"finish", anyMany, 0},
	{"show", 0, 0},
	{"table", 0, 0},
	{"means", 0, 0},
}

// order is a line that is a known word, and numbers.
type order struct {
	word    string
	act     int
	takes   int
	numbers []int
}

// orderOf reads a line; false: it is none.
func orderOf(line string) (order, bool) {
	fields := strings.Split(line, " ")
	for _, w := range words {
		if w.word == fields[0] {
			numbers, ok := numbersOf(fields[1:])
			return order{w.word, w.act, w.takes, numbers}, ok
		}
	}
	return order{}, false
}

// fits tells whether there are as many numbers as the word takes.
func (o order) fits() bool { return o.takes == anyMany || o.takes == len(o.numbers) }

// numbersOf reads numbers; false: one of them is none.
func numbersOf(fields []string) ([]int, bool) {
	var l []int
	for _, f := range fields {
		v, err := value.Read(f)
		if err != nil || v.Kind != api.Int || v.Int < 0 || len(f) > maxDigits {
			return nil, false
		}
		l = append(l, int(v.Int))
	}
	return l, true
}

// actOf gives the act that an order says, in a job of so many nodes.
func (o order) actOf(nodes int) api.Act {
	a := api.Act{Kind: o.act}
	if o.takes == anyMany {
		a.Par = o.par(nodes)
		return a
	}
	if len(o.numbers) > 0 {
		a.A = o.numbers[0]
	}
	if len(o.numbers) > 1 {
		a.B = o.numbers[1]
	}
	return a
}

// par gives how many tasks each of the nodes is to have.
func (o order) par(nodes int) []int {
	if len(o.numbers) == 1 {
		return slices.Repeat(o.numbers, nodes)
	}
	return o.numbers
}

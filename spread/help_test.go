package spread_test

import (
	"math"
	"reflect"
	"strings"
	"testing"
	"unsafe"

	"streamwright/api"
	"streamwright/job"
	"streamwright/spread"
)

// parsed gives the job of lines that are one.
func parsed(t *testing.T, lines ...string) api.Job {
	t.Helper()
	text := strings.Join(lines, "\n")
	j, line, err := job.Parse(text)
	if err != nil {
		t.Fatalf("Parse(%q): %v, line %d", text, err, line)
	}
	return j
}

// expanded gives the graph of a job with tasks that it can have.
func expanded(t *testing.T, j api.Job, par ...int) api.Graph {
	t.Helper()
	g, err := spread.Expand(j, par)
	if err != nil {
		t.Fatalf("Expand with %v: %v", par, err)
	}
	return g
}

// far has numbers that are none of a task, a group, an edge.
func far() []int {
	return []int{-1, -2, -32, 33, 64, 1 << 20, math.MaxInt, math.MaxInt - 1, math.MinInt, math.MinInt + 1, math.MaxInt / 32, math.MinInt / 4}
}

// held is the memory of a list, all of its capacity.
type held struct{ from, to uintptr }

// memory gathers that of all lists in something.
func memory(v reflect.Value) []held {
	var l []held
	switch v.Kind() {
	case reflect.Slice:
		if size := v.Type().Elem().Size(); v.Cap() > 0 && size > 0 {
			from := uintptr(unsafe.Pointer(v.Pointer()))
			l = append(l, held{from, from + uintptr(v.Cap())*size})
		}
		for i := range v.Len() {
			l = append(l, memory(v.Index(i))...)
		}
	case reflect.Struct:
		for i := range v.NumField() {
			l = append(l, memory(v.Field(i))...)
		}
	}
	return l
}

// apart tells that no two lists share memory, of all things together.
func apart(t *testing.T, what string, things ...any) {
	t.Helper()
	var l []held
	for _, one := range things {
		l = append(l, memory(reflect.ValueOf(one))...)
	}
	for i, a := range l {
		for _, b := range l[:i] {
			if a.from < b.to && b.from < a.to {
				t.Errorf("%s: two lists share memory", what)
				return
			}
		}
	}
}

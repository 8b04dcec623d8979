package job_test

import (
	"fmt"
	"reflect"
	"strings"
	"testing"
	"unsafe"

	"streamwright/api"
	"streamwright/job"
	"streamwright/plain"
)

// head has two streams of different columns, and one like the first.
const head = "stream s (a int, b text, c bool)\nstream o (d text, e int)\nstream r (a int, b text, c bool)\n"

// headLines is how many lines head has.
const headLines = 3

func abc() []api.Column {
	return []api.Column{{Name: "a", Kind: api.Int}, {Name: "b", Kind: api.Text}, {Name: "c", Kind: api.Bool}}
}

func de() []api.Column {
	return []api.Column{{Name: "d", Kind: api.Text}, {Name: "e", Kind: api.Int}}
}

func columns(names string, kinds ...api.Kind) []api.Column {
	var l []api.Column
	for i, name := range strings.Fields(names) {
		l = append(l, api.Column{Name: name, Kind: kinds[i]})
	}
	return l
}

// reads gives the nodes of a text that is one.
func reads(t *testing.T, text string) []api.Node {
	t.Helper()
	j, line, err := job.Parse(text)
	if err != nil || line != 0 {
		t.Errorf("Parse(%q): %v, line %d", text, err, line)
	}
	return j.Nodes
}

// last gives the last node of head with lines behind it.
func last(t *testing.T, lines string) api.Node {
	t.Helper()
	nodes := reads(t, head+lines)
	if len(nodes) == 0 {
		return api.Node{}
	}
	return nodes[len(nodes)-1]
}

// same holds nodes against each other: an empty list and nil are the same.
func same(t *testing.T, what string, got, want any) {
	t.Helper()
	if g, w := fmt.Sprintf("%+v", got), fmt.Sprintf("%+v", want); g != w {
		t.Errorf("%s:\n%s, want\n%s", what, g, w)
	}
}

// tells holds both Parse and Print against a fault.
func tells(t *testing.T, text string, why api.Errno, at int) {
	t.Helper()
	j, line, err := job.Parse(text)
	if plain.Told(err) != why || line != at || j.Nodes != nil {
		t.Errorf("Parse(%q): %v, line %d, want %v, line %d; %v", text, err, line, why, at, j)
	}
	out, line, err := job.Print(text)
	if plain.Told(err) != why || line != at || out != "" {
		t.Errorf("Print(%q): %v, line %d, want %v, line %d; %q", text, err, line, why, at, out)
	}
}

// behindHead holds each line, behind head, against a fault in it, or OK.
func behindHead(t *testing.T, why api.Errno, lines ...string) {
	t.Helper()
	for _, line := range lines {
		if why == api.OK {
			reads(t, head+line)
		} else {
			tells(t, head+line, why, headLines+1)
		}
	}
}

// prints holds Print against what it should write.
func prints(t *testing.T, text, want string) {
	t.Helper()
	got, line, err := job.Print(text)
	if err != nil || line != 0 || got != want {
		t.Errorf("Print(%q): %v, line %d,\n%s, want\n%s", text, err, line, got, want)
	}
}

// held is the memory of a list, all of its capacity.
type held struct{ from, to uintptr }

// memory gathers that of all lists in something.
func memory(v reflect.Value) []held {
	var l []held
	switch v.Kind() {
	case reflect.Slice:
		if size := v.Type().Elem().Size(); v.Cap() > 0 && size > 0 {
			from := uintptr(unsafe.Pointer(v.Pointer()))
			l = append(l, held{from, from + uintptr(v.Cap())*size})
		}
		for i := range v.Len() {
			l = append(l, memory(v.Index(i))...)
		}
	case reflect.Struct:
		for i := range v.NumField() {
			l = append(l, memory(v.Field(i))...)
		}
	}
	return l
}

// apart tells that no two lists share memory, of all things together.
func apart(t *testing.T, what string, things ...any) {
	t.Helper()
	var l []held
	for _, one := range things {
		l = append(l, memory(reflect.ValueOf(one))...)
	}
	for i, a := range l {
		for _, b := range l[:i] {
			if a.from < b.to && b.from < a.to {
				t.Errorf("%s: two lists share memory", what)
				return
			}
		}
	}
}

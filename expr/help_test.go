package expr_test

import (
	"strings"
	"testing"

	"streamwright/api"
	"streamwright/expr"
	"streamwright/plain"
	"streamwright/value"
)

// columns has two of each kind; over nulls the second ones are Null.
func columns() []api.Column {
	return []api.Column{
		{Name: "a", Kind: api.Int}, {Name: "b", Kind: api.Bool}, {Name: "c", Kind: api.Text},
		{Name: "n", Kind: api.Int}, {Name: "m", Kind: api.Bool}, {Name: "o", Kind: api.Text},
	}
}

func nulls() []api.Value {
	return []api.Value{value.Of(7), value.Truth(true), value.Words("word"), {}, {}, {}}
}

// faulty is a text with what is wrong in it, and where.
type faulty struct {
	text string
	why  api.Errno
	at   int
}

// sameFaults holds Check, Print and Eval against faults of E1 and E2, which
// all of them tell.
func sameFaults(t *testing.T, list []faulty) {
	t.Helper()
	for _, c := range list {
		checkTells(t, c, columns())
		checkTells(t, c, make([]api.Column, 9)) // columns that are none come behind
		out, at, err := expr.Print(c.text)
		if plain.Told(err) != c.why || at != c.at || out != "" {
			t.Errorf("Print(%q): %q, %v at %d, want %v at %d", c.text, out, err, at, c.why, c.at)
		}
		evalTells(t, c, columns(), nulls())
		evalTells(t, c, columns(), nil)
	}
}

func checkTells(t *testing.T, c faulty, cols []api.Column) {
	t.Helper()
	kind, at, err := expr.Check(c.text, cols)
	if plain.Told(err) != c.why || at != c.at || kind != 0 {
		t.Errorf("Check(%q): %v, %v at %d, want %v at %d", c.text, kind, err, at, c.why, c.at)
	}
}

func evalTells(t *testing.T, c faulty, cols []api.Column, row []api.Value) {
	t.Helper()
	v, err := expr.Eval(c.text, cols, row)
	if plain.Told(err) != c.why || v != (api.Value{}) {
		t.Errorf("Eval(%q): %+v, %v, want %v", c.text, v, err, c.why)
	}
}

// prints holds Print against what it should write.
func prints(t *testing.T, text, want string) {
	t.Helper()
	got, at, err := expr.Print(text)
	if err != nil || at != 0 || got != want {
		t.Errorf("Print(%q): %q, %v at %d, want %q", text, got, err, at, want)
	}
}

func isKind(t *testing.T, text string, want api.Kind) {
	t.Helper()
	kind, at, err := expr.Check(text, columns())
	if err != nil || at != 0 || kind != want {
		t.Errorf("Check(%q): %v, %v at %d, want %v", text, kind, err, at, want)
	}
}

func many(s string, n int) string { return strings.Repeat(s, n) }

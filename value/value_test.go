package value_test

import (
	"math"
	"strings"
	"testing"

	"streamwright/api"
	"streamwright/value"
)

func TestV1Makes(t *testing.T) {
	for _, c := range []struct{ got, want api.Value }{
		{value.Of(0), api.Value{Kind: api.Int}},
		{value.Of(-7), api.Value{Kind: api.Int, Int: -7}},
		{value.Of(math.MinInt64), api.Value{Kind: api.Int, Int: math.MinInt64}},
		{value.Truth(true), api.Value{Kind: api.Bool, Int: 1}},
		{value.Truth(false), api.Value{Kind: api.Bool}},
		{value.Words(""), api.Value{Kind: api.Text}},
		{value.Words("a\x00\xff"), api.Value{Kind: api.Text, Text: "a\x00\xff"}},
		{value.Words(text(61)), api.Value{Kind: api.Text, Text: text(61)}},
	} {
		if c.got != c.want {
			t.Errorf("made %+v, want %+v", c.got, c.want)
		}
	}
}

func TestV1Valid(t *testing.T) {
	for _, c := range validValues() {
		if !value.Valid(c) {
			t.Errorf("%+v is not valid", c)
		}
	}
	for _, c := range invalidValues() {
		if value.Valid(c) {
			t.Errorf("%+v is valid", c)
		}
	}
}

func TestV1ValidRow(t *testing.T) {
	eight := make([]api.Value, api.MaxValues)
	for _, r := range []api.Row{
		{}, {Time: api.MaxTime}, {Values: []api.Value{}}, {Time: 5, Values: eight},
		{Values: []api.Value{value.Of(1), value.Truth(true), value.Words(text(60)), {}}},
	} {
		if !value.ValidRow(r) {
			t.Errorf("%+v is not valid", r)
		}
	}
	for _, r := range []api.Row{
		{Time: api.Never}, {Time: api.Forever}, {Time: math.MinInt64}, {Time: math.MaxInt64},
		{Values: make([]api.Value, api.MaxValues+1)},
	} {
		if value.ValidRow(r) {
			t.Errorf("%+v is valid", r)
		}
	}
	for _, v := range invalidValues() {
		for at := range api.MaxValues {
			l := make([]api.Value, api.MaxValues)
			l[at] = v
			if value.ValidRow(api.Row{Values: l}) {
				t.Errorf("a row with %+v at %d is valid", v, at)
			}
		}
	}
}

// validValues has some of each kind.
func validValues() []api.Value {
	l := []api.Value{
		{},
		value.Of(0), value.Of(1), value.Of(-1), value.Of(10), value.Of(-10),
		value.Of(math.MaxInt64), value.Of(math.MinInt64),
		value.Truth(false), value.Truth(true),
		value.Words(""), value.Words("null"), value.Words("true"), value.Words("1"),
		value.Words("'"), value.Words("\\"), value.Words("\\27"), value.Words("a'b"),
		value.Words("é"), value.Words(text(60)), value.Words(strings.Repeat("\xff", 60)),
	}
	for c := range 256 {
		l = append(l, value.Words(string([]byte{byte(c)})), value.Words(string([]byte{'x', byte(c), '0'})))
	}
	return l
}

// invalidValues has each kind with what it does not name, and none of a kind.
func invalidValues() []api.Value {
	return []api.Value{
		{Kind: api.Null, Int: 1}, {Kind: api.Null, Text: "a"},
		{Kind: api.Int, Text: "1"}, {Kind: api.Int, Int: 1, Text: "\x00"},
		{Kind: api.Bool, Int: 2}, {Kind: api.Bool, Int: -1}, {Kind: api.Bool, Int: math.MinInt64}, {Kind: api.Bool, Int: 1, Text: "true"},
		{Kind: api.Text, Text: "a", Int: 1}, {Kind: api.Text, Text: text(61)}, {Kind: api.Text, Text: text(1000)},
		{Kind: 4}, {Kind: -1}, {Kind: 256}, {Kind: 259, Text: "a"}, {Kind: math.MinInt64},
	}
}

// text has so many bytes.
func text(n int) string { return strings.Repeat("x", n) }

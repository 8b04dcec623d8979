package tuple_test

import (
	"slices"
	"strings"
	"testing"

	"streamwright/api"
	"streamwright/tuple"
	"streamwright/value"
)

func TestE4Fits(t *testing.T) {
	cols := []api.Column{{Name: "a", Kind: api.Int}, {Name: "b", Kind: api.Bool}, {Name: "c", Kind: api.Text}}
	one, yes, word := value.Of(1), value.Truth(true), value.Words("w")
	for _, c := range []struct {
		l    []api.Value
		want bool
	}{
		{[]api.Value{one, yes, word}, true}, {[]api.Value{{}, {}, {}}, true}, {[]api.Value{one, {}, word}, true},
		{nil, false}, {[]api.Value{one, yes}, false}, {[]api.Value{one, yes, word, word}, false}, {[]api.Value{one, yes, word, {}}, false},
		{[]api.Value{yes, yes, word}, false}, {[]api.Value{one, one, word}, false}, {[]api.Value{one, yes, yes}, false},
		{[]api.Value{{Kind: api.Int, Text: "x"}, yes, word}, false}, {[]api.Value{one, {Kind: api.Bool, Int: 2}, word}, false},
		{[]api.Value{one, yes, value.Words(strings.Repeat("w", 61))}, false}, {[]api.Value{{Int: 1}, yes, word}, false},
	} {
		if got := tuple.Fits(c.l, cols); got != c.want {
			t.Errorf("Fits(%+v): %v", c.l, got)
		}
	}
	if !tuple.Fits(nil, nil) || tuple.Fits([]api.Value{{}}, nil) {
		t.Error("no columns")
	}
}

func TestAt(t *testing.T) {
	l := []api.Value{value.Of(4), value.Of(5), value.Of(6)}
	for _, c := range []struct {
		places []int
		want   []api.Value
	}{
		{nil, nil}, {[]int{1}, l[1:2]}, {[]int{2, 0, 2}, []api.Value{l[2], l[0], l[2]}},
	} {
		got := tuple.At(l, c.places)
		if !slices.Equal(got, c.want) {
			t.Errorf("At(%v): %+v", c.places, got)
		}
		clear(got)
	}
	if l[1] != value.Of(5) {
		t.Error("what comes out is no memory of its own")
	}
}

func TestNameTellsApart(t *testing.T) {
	lists := [][]api.Value{
		nil, {{}}, {{}, {}}, {value.Of(0)}, {value.Of(1)}, {value.Of(-1)}, {value.Truth(false)}, {value.Truth(true)}, {value.Of(1), value.Of(1)}, {value.Of(1), {}}, {{}, value.Of(1)},
		{value.Words("")}, {value.Words("a")}, {value.Words("b")}, {value.Words("ab")}, {value.Words("a"), value.Words("b")}, {value.Words("ab"), value.Words("")}, {value.Words("a\x03\x02b")},
	}
	for i, a := range lists {
		for k, b := range lists {
			if same := tuple.Name(a) == tuple.Name(slices.Clone(b)); same != (i == k) {
				t.Errorf("%+v and %+v: %v", a, b, same)
			}
		}
	}
}

func TestW3Put(t *testing.T) {
	got := tuple.Put([]byte("ahead"), []api.Value{{}, value.Of(-1), value.Truth(true), value.Words("a")})
	if string(got) != "ahead\x00\x01\x01\x02\x02\x03\x02a" {
		t.Errorf("Put: %x", got)
	}
}

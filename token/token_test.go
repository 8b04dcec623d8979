package token_test

import (
	"slices"
	"strings"
	"testing"

	"streamwright/token"
)

func TestE1Cut(t *testing.T) {
	for _, c := range []struct {
		text string
		want []token.Token
	}{
		{"", []token.Token{{At: 0}}},
		{" \t\n", []token.Token{{At: 3}}},
		{"a_1Z", []token.Token{{0, token.Word, "a_1Z"}, {At: 4}}},
		{"1a 0", []token.Token{{0, token.Number, "1a"}, {3, token.Number, "0"}, {At: 4}}},
		{"'' 'a b#$'x", []token.Token{{0, token.Text, "''"}, {3, token.Text, "'a b#$'"}, {10, token.Word, "x"}, {At: 11}}},
		{"<><=>=++", []token.Token{{0, token.Sign, "<>"}, {2, token.Sign, "<="}, {4, token.Sign, ">="}, {6, token.Sign, "++"}, {At: 8}}},
		{"=<>>+", []token.Token{{0, token.Sign, "="}, {1, token.Sign, "<>"}, {3, token.Sign, ">"}, {4, token.Sign, "+"}, {At: 5}}},
		{"-*/%(),", []token.Token{{0, token.Sign, "-"}, {1, token.Sign, "*"}, {2, token.Sign, "/"}, {3, token.Sign, "%"}, {4, token.Sign, "("}, {5, token.Sign, ")"}, {6, token.Sign, ","}, {At: 7}}},
	} {
		if got, at, ok := token.Cut(c.text); !ok || at != 0 || !slices.Equal(got, c.want) {
			t.Errorf("Cut(%q): %v, %d, %v", c.text, got, at, ok)
		}
	}
}

func TestE1CutNone(t *testing.T) {
	for _, no := range []string{"$", "'", "'a", "#", "\r", "\x00", "\x80", "\xff", ".", ";", "!", "&", "|", "[", "]", "{", "}", "\"", "\\", "^", "~", "`", "?", ":", "@", "\v", "\f", "é"} {
		for _, ahead := range []string{"", " ", "a", "1 <> 'x' ", "\n\t"} {
			if got, at, ok := token.Cut(ahead + no); ok || got != nil || at != len(ahead) {
				t.Errorf("Cut(%q): %v, %d, %v", ahead+no, got, at, ok)
			}
		}
	}
}

func TestE1IsWord(t *testing.T) {
	for _, s := range []string{"a", "_", "Z9", "not", strings.Repeat("x", 1000)} {
		if !token.IsWord(s) {
			t.Errorf("%q is no word", s)
		}
	}
	for _, s := range []string{"", "1", "1a", " a", "a ", "a b", "a-b", "'a'", "é", "\x00"} {
		if token.IsWord(s) {
			t.Errorf("%q is a word", s)
		}
	}
}

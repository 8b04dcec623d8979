package value_test

import (
	"fmt"
	"strings"
	"testing"

	"streamwright/api"
	"streamwright/plain"
	"streamwright/value"
)

func TestV3Show(t *testing.T) {
	for _, c := range []struct {
		v    api.Value
		want string
	}{
		{api.Value{}, "null"},
		{value.Of(0), "0"}, {value.Of(-3), "-3"}, {value.Of(1200), "1200"},
		{value.Of(1<<63 - 1), "9223372036854775807"}, {value.Of(-1 << 63), "-9223372036854775808"},
		{value.Truth(true), "true"}, {value.Truth(false), "false"},
		{value.Words(""), "''"}, {value.Words("a'b"), `'a\27b'`}, {value.Words(`a\b`), `'a\5cb'`},
		{value.Words("\x00\n\x1f ~\x7f\x80\xff"), `'\00\0a\1f ~\7f\80\ff'`},
		{value.Words("é\""), `'\c3\a9"'`}, {value.Words(text(60)), "'" + text(60) + "'"},
	} {
		if got := value.Show(c.v); got != c.want {
			t.Errorf("Show(%+v): %q, want %q", c.v, got, c.want)
		}
	}
	for c := range 256 {
		want := fmt.Sprintf(`'\%02x'`, c)
		if c >= 32 && c <= 126 && c != '\'' && c != '\\' {
			want = "'" + string(rune(c)) + "'"
		}
		if got := value.Show(value.Words(string([]byte{byte(c)}))); got != want {
			t.Errorf("Show of the byte %d: %q, want %q", c, got, want)
		}
	}
	for _, v := range invalidValues() {
		if got := value.Show(v); got != "" {
			t.Errorf("Show(%+v): %q, want nothing", v, got)
		}
	}
}

func TestV3ReadWhatShowWrites(t *testing.T) {
	for _, v := range validValues() {
		got, err := value.Read(value.Show(v))
		if err != nil || got != v {
			t.Errorf("Read(%q): %+v, %v, want %+v", value.Show(v), got, err, v)
		}
	}
}

func TestV3ReadNothingElse(t *testing.T) {
	for _, s := range []string{
		"", " ", "nul", "nulll", "Null", "NULL", " null", "null\n",
		"True", "TRUE", "truee", "t", "f", "false ", "yes",
		"007", "00", "-0", "-01", "+1", "--1", "-", "+", "1 ", " 1", "1\n", "1.0", "1e3", "0x1", "1_000", "a", "１",
		"9223372036854775808", "-9223372036854775809", "99999999999999999999999999",
		"'", "'a", "a'", "'a'b'", "'''", "''''", "'a' ", " 'a'", `"a"`,
		`'\'`, `'\2'`, `'\27`, `'\\'`, `'\41'`, `'\20'`, `'\7e'`, `'\0A'`, `'\FF'`, `'\0g'`, `'\g0'`, `'\+1'`, `'\-1'`, `'\x1'`, `'\n'`, `'a\'b'`,
		"'\n'", "'\x00'", "'\x7f'", "'\x80'", "'é'",
		"'" + text(61) + "'", "'" + strings.Repeat(`\00`, 61) + "'", "'" + text(100000) + "'", strings.Repeat("1", 100000),
	} {
		got, err := value.Read(s)
		if plain.Told(err) != api.ErrSyntax || got != (api.Value{}) {
			t.Errorf("Read(%.80q): %+v, %v, want ErrSyntax", s, got, err)
		}
	}
}

// TestV3ReadShortTexts holds Read against Show at all texts of few signs.
func TestV3ReadShortTexts(t *testing.T) {
	const signs = `'\027afA-+ `
	texts := []string{""}
	for from := 0; len(texts[from]) < 5; from++ {
		for i := range signs {
			texts = append(texts, texts[from]+signs[i:i+1])
		}
	}
	for _, s := range texts {
		v, err := value.Read(s)
		if err == nil && (!value.Valid(v) || value.Show(v) != s) {
			t.Errorf("Read(%q): %+v", s, v)
		}
		if err != nil && (plain.Told(err) != api.ErrSyntax || v != (api.Value{})) {
			t.Errorf("Read(%q): %+v, %v", s, v, err)
		}
	}
}

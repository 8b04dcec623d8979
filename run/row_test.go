package run_test

import (
	"math"
	"math/rand"
	"regexp"
	"slices"
	"strconv"
	"strings"
	"testing"

	"streamwright/api"
	"streamwright/plain"
	"streamwright/run"
	"streamwright/value"
)

func row(time int64, l ...api.Value) api.Row { return api.Row{Time: time, Values: l} }

// ones gives so many values, each the number 1.
func ones(n int) []api.Value { return slices.Repeat([]api.Value{value.Of(1)}, n) }

func same(a, b api.Row) bool { return a.Time == b.Time && slices.Equal(a.Values, b.Values) }

func TestR1ShowAndRow(t *testing.T) {
	for _, c := range []struct {
		row  api.Row
		text string
	}{
		{row(12, value.Words("a'b"), value.Of(-3), api.Value{}), `12: 'a\27b', -3, null`},
		{row(0), "0:"},
		{row(api.MaxTime), "1099511627776:"},
		{row(7, value.Of(0)), "7: 0"},
		{row(7, value.Truth(true), value.Truth(false)), "7: true, false"},
		{row(7, api.Value{}, api.Value{}), "7: null, null"},
		{row(7, value.Of(math.MinInt64), value.Of(math.MaxInt64)), "7: -9223372036854775808, 9223372036854775807"},
		{row(7, value.Words("")), "7: ''"},
		{row(7, value.Words(""), value.Words("")), "7: '', ''"},
		{row(7, value.Words("a, 'b', c: d")), `7: 'a, \27b\27, c: d'`},
		{row(7, value.Words(", "), value.Words(","), value.Words(" ")), "7: ', ', ',', ' '"},
		{row(7, value.Words("\\"), value.Words("\n\x00\xff")), `7: '\5c', '\0a\00\ff'`},
		{row(7, value.Words("null"), value.Words("1")), "7: 'null', '1'"},
		{row(7, value.Words(strings.Repeat("x", api.MaxText))), "7: '" + strings.Repeat("x", api.MaxText) + "'"},
		{row(7, value.Words(strings.Repeat("'", api.MaxText))), "7: '" + strings.Repeat(`\27`, api.MaxText) + "'"},
		{row(7, ones(api.MaxValues)...), "7: 1, 1, 1, 1, 1, 1, 1, 1"},
	} {
		if got := run.Show(c.row); got != c.text {
			t.Errorf("Show of %v: %q, want %q", c.row, got, c.text)
		}
		if got, err := run.Row(c.text); err != nil || !same(got, c.row) {
			t.Errorf("Row of %q: %v, %v, want %v", c.text, got, err, c.row)
		}
	}
}

// Show writes of what is not valid, too, what its words say; Row reads none of it.
func TestR1RowsThatAreNotValid(t *testing.T) {
	long := value.Words(strings.Repeat("x", api.MaxText+1))
	for _, c := range []struct {
		row  api.Row
		text string
	}{
		{row(-1), "-1:"},
		{row(math.MinInt64, value.Of(1)), "-9223372036854775808: 1"},
		{row(api.Forever, value.Of(1)), "1099511627777: 1"},
		{row(math.MaxInt64), "9223372036854775807:"},
		{row(7, long), "7: "},
		{row(7, long, value.Of(1), long), "7: , 1, "},
		{row(7, api.Value{Kind: 9}, api.Value{Kind: api.Bool, Int: 2}), "7: , "},
		{row(7, ones(api.MaxValues+1)...), "7: 1, 1, 1, 1, 1, 1, 1, 1, 1"},
	} {
		if got := run.Show(c.row); got != c.text {
			t.Errorf("Show of %v: %q, want %q", c.row, got, c.text)
		}
		noRow(t, c.text)
	}
}

// noRow asks that a text is no row's.
func noRow(t *testing.T, text string) {
	t.Helper()
	r, err := run.Row(text)
	if plain.Told(err) != api.ErrSyntax || r.Time != 0 || len(r.Values) != 0 {
		t.Errorf("Row of %q: %v, %v", text, r, err)
	}
}

func TestR1TextsThatAreNone(t *testing.T) {
	for _, s := range []string{
		"", ":", " ", "1", "1 ", " 1:", "1 :", "1: ", "1::", "1:: 2", "1:2", "1:  2", "1:\t2", "1: 2 ", "1: 2\n", "1:\n", "\n1:",
		"x: 1", "null: 1", "true: 1", "'1': 1", ": 1", "+1: 1", "-0: 1", "-1: 1", "00: 1", "01: 1", "1.0: 1", "0x1: 1", "1e3: 1", "٣: 1",
		"1099511627777: 1", "9223372036854775808: 1", "18446744073709551617: 1", strings.Repeat("9", 100) + ": 1",
		"1: ,", "1: , 2", "1: 2,", "1: 2, ", "1: 2,3", "1: 2 ,3", "1: 2 , 3", "1: 2,, 3", "1: 2,  3", "1: 2 3", "1: 2; 3", "1:, 2", "1,: 2",
		"1: 01", "1: +1", "1: -0", "1: - 1", "1: 1.0", "1: 9223372036854775808", "1: -9223372036854775809",
		"1: Null", "1: nil", "1: TRUE", "1: yes", "1: x", `1: "a"`,
		"1: '", "1: 'a", "1: a'", "1: '''", "1: 'a'b", "1: 'a''b'", "1: 'a' 'b'", "1: 'a','b'", "1: 'a'x 'b'", "1: 'a'; 'b'", "1: 'a',", "1: 'a', ", "1: 'a' ", "1: 2, 'a",
		`1: 'a\'`, `1: '\2'`, `1: '\27`, `1: '\'`, `1: '\\'`, `1: '\41'`, `1: '\20'`, `1: '\7E'`, `1: '\0A'`, `1: '\x0'`, "1: '\n'", "1: '\x7f'", "1: 'é'",
		"1: '" + strings.Repeat("x", api.MaxText+1) + "'",
		"1: 1, 2, 3, 4, 5, 6, 7, 8, 9", "1:" + strings.Repeat(" 1,", 5000) + " 1",
	} {
		noRow(t, s)
	}
}

// A row as its chapter has it, read a second time.
var (
	shownInt  = `(?:0|-?[1-9][0-9]{0,18})`
	shownText = `'(?:[ -&(-\[\]-~]|\\(?:[01][0-9a-f]|27|5c|7f|[89a-f][0-9a-f]))*'`
	shownOne  = `(?:null|true|false|` + shownInt + `|` + shownText + `)`
	shownRow  = regexp.MustCompile(`^(0|[1-9][0-9]{0,12}):((?: ` + shownOne + `(?:, ` + shownOne + `){0,7})?)$`)
	shownPart = regexp.MustCompile(shownOne)
)

// isShown tells whether there is a row that is shown so.
func isShown(s string) bool {
	m := shownRow.FindStringSubmatch(s)
	if m == nil {
		return false
	}
	if time, err := strconv.ParseInt(m[1], 10, 64); err != nil || time > api.MaxTime {
		return false
	}
	for _, v := range shownPart.FindAllString(m[2], -1) {
		if v[0] == '\'' {
			bytes := len(v) - 2 - 2*strings.Count(v, `\`)
			if bytes > api.MaxText {
				return false
			}
		} else if v[0] == '-' || v[0] <= '9' {
			if _, err := strconv.ParseInt(v, 10, 64); err != nil {
				return false
			}
		}
	}
	return true
}

func randomValue(r *rand.Rand) api.Value {
	switch r.Intn(6) {
	case 0:
		return api.Value{}
	case 1:
		return value.Truth(r.Intn(2) == 0)
	case 2:
		return value.Of(int64(r.Uint64()))
	case 3:
		return value.Of(int64(r.Intn(21) - 10))
	}
	const bytes = "ab,: '\\\n\x00\xff01nt-"
	var b []byte
	for range r.Intn(r.Intn(api.MaxText+1) + 1) {
		b = append(b, bytes[r.Intn(len(bytes))])
	}
	return value.Words(string(b))
}

func randomRow(r *rand.Rand) api.Row {
	out := api.Row{Time: r.Int63n(api.MaxTime+1) >> r.Intn(41)}
	for range r.Intn(api.MaxValues + 1) {
		out.Values = append(out.Values, randomValue(r))
	}
	return out
}

// bent gives a text with some bytes changed, put in or taken out.
func bent(r *rand.Rand, s string) string {
	const bytes = "0129: ,'\\-antrue5c27\x00\n"
	for range 1 + r.Intn(2) {
		at, c := r.Intn(len(s)+1), string(bytes[r.Intn(len(bytes))])
		behind := min(at+r.Intn(2), len(s))
		if r.Intn(3) == 0 {
			c = ""
		}
		s = s[:at] + c + s[behind:]
	}
	return s
}

func TestR1Random(t *testing.T) {
	r := rand.New(rand.NewSource(15))
	taken := 0
	for range 30000 {
		x := randomRow(r)
		s := run.Show(x)
		if got, err := run.Row(s); err != nil || !same(got, x) || !isShown(s) {
			t.Fatalf("Row of %q: %v, %v, want %v", s, got, err, x)
		}
		s = bent(r, s)
		got, err := run.Row(s)
		if isShown(s) != (err == nil) {
			t.Fatalf("Row of %q: %v, %v", s, got, err)
		}
		if err != nil {
			noRow(t, s)
			continue
		}
		taken++
		if !value.ValidRow(got) || run.Show(got) != s {
			t.Fatalf("Row of %q: %v", s, got)
		}
	}
	if taken < 3000 {
		t.Errorf("only %d of the bent texts are rows", taken)
	}
}

// What is handed in is not written into.
func TestR1ShowLeavesRows(t *testing.T) {
	x := row(3, value.Words("a'b"), value.Of(4))
	before := api.Row{Time: 3, Values: slices.Clone(x.Values)}
	run.Show(x)
	if !same(x, before) {
		t.Errorf("the row is %v now", x)
	}
}

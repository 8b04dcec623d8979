package expr_test

import (
	"testing"

	"streamwright/api"
	"streamwright/expr"
	"streamwright/plain"
	"streamwright/value"
)

// comes holds Eval against what Show writes of its answer.
func comes(t *testing.T, cols []api.Column, row []api.Value, list [][2]string) {
	t.Helper()
	for _, c := range list {
		v, err := expr.Eval(c[0], cols, row)
		if err != nil || value.Show(v) != c[1] {
			t.Errorf("Eval(%q): %s, %v, want %s", c[0], value.Show(v), err, c[1])
		}
	}
}

func TestE4Numbers(t *testing.T) {
	least := "(-9223372036854775807 - 1)"
	comes(t, columns(), nulls(), [][2]string{
		{"a", "7"}, {"a + 2", "9"}, {"a - 9", "-2"}, {"a * -3", "-21"}, {"a / 2", "3"}, {"a % 2", "1"}, {"-a", "-7"}, {"--a", "7"},
		{"-7 / 2", "-3"}, {"7 / -2", "-3"}, {"-7 / -2", "3"}, {"-7 % 4", "-3"}, {"7 % -4", "3"}, {"-7 % -4", "-3"}, {"1 / 2", "0"}, {"0 / 5", "0"},
		{"a / 0", "null"}, {"a % 0", "null"}, {"0 / 0", "null"}, {"0 % 0", "null"}, {least + " / 0", "null"}, {"a / (a - 7)", "null"},
		{"9223372036854775807 + 1", "-9223372036854775808"}, {least + " - 1", "9223372036854775807"}, {"9223372036854775807 * 2", "-2"}, {"4294967296 * 4294967296", "0"}, {"-" + least, "-9223372036854775808"},
		{least + " / -1", "-9223372036854775808"}, {least + " % -1", "0"}, {least + " / 1", "-9223372036854775808"}, {least + " % 2", "0"}, {least + " / 10", "-922337203685477580"}, {least + " % 10", "-8"},
		{"abs(a)", "7"}, {"abs(-a)", "7"}, {"abs(0)", "0"}, {"abs(" + least + ")", "-9223372036854775808"}, {"abs(9223372036854775807)", "9223372036854775807"}, {"abs(-9223372036854775807)", "9223372036854775807"},
	})
}

func TestE4FromTheLeftByTheGrammar(t *testing.T) {
	comes(t, columns(), nulls(), [][2]string{
		{"1 - 2 - 3", "-4"}, {"1 - (2 - 3)", "2"}, {"24 / 4 / 2", "3"}, {"24 / 4 * 2", "12"}, {"7 % 4 * 2", "6"}, {"2 + 3 * 4", "14"}, {"(2 + 3) * 4", "20"}, {"2 * 3 + 4", "10"}, {"-2 * 3 - 1", "-7"}, {"10 - 2 + 3", "11"},
		{"true or true and false", "true"}, {"(true or true) and false", "false"}, {"not false and false", "false"}, {"not (false and false)", "true"}, {"not 1 = 2", "true"}, {"1 + 1 = 2 and 2 < 1 + 2", "true"}, {"not not true", "true"},
		{"'a' ++ 'b' ++ 'c'", "'abc'"}, {"'a' ++ 'b' = 'ab'", "true"},
	})
}

func TestE4Truths(t *testing.T) {
	comes(t, columns(), nulls(), [][2]string{
		{"true and true", "true"}, {"true and false", "false"}, {"false and true", "false"}, {"false and false", "false"}, {"m and true", "null"}, {"true and m", "null"}, {"m and false", "false"}, {"false and m", "false"}, {"m and m", "null"},
		{"true or true", "true"}, {"true or false", "true"}, {"false or true", "true"}, {"false or false", "false"}, {"m or true", "true"}, {"true or m", "true"}, {"m or false", "null"}, {"false or m", "null"}, {"m or m", "null"},
		{"not true", "false"}, {"not false", "true"}, {"not m", "null"}, {"not (m and false)", "true"},
	})
}

func TestE4Comparisons(t *testing.T) {
	orders := []struct{ less, more string }{
		{"1", "2"}, {"-2", "1"}, {"2", "10"}, {"-9223372036854775807 - 1", "9223372036854775807"}, {"false", "true"},
		{"''", "'a'"}, {"'a'", "'b'"}, {"'10'", "'2'"}, {"'a'", "'aa'"}, {"'ab'", "'b'"}, {"'Z'", "'a'"}, {`'\7f'`, `'\80'`}, {"'~'", `'\ff'`},
	}
	for _, o := range orders {
		comes(t, columns(), nulls(), [][2]string{
			{o.less + " < " + o.more, "true"}, {o.more + " < " + o.less, "false"}, {o.less + " < " + o.less, "false"},
			{o.less + " <= " + o.more, "true"}, {o.more + " <= " + o.less, "false"}, {o.less + " <= " + o.less, "true"},
			{o.less + " > " + o.more, "false"}, {o.more + " > " + o.less, "true"}, {o.less + " > " + o.less, "false"},
			{o.less + " >= " + o.more, "false"}, {o.more + " >= " + o.less, "true"}, {o.less + " >= " + o.less, "true"},
			{o.less + " = " + o.more, "false"}, {o.more + " = " + o.more, "true"},
			{o.less + " <> " + o.more, "true"}, {o.more + " <> " + o.more, "false"},
		})
	}
}

func TestE4Nulls(t *testing.T) {
	for _, s := range []string{
		"n", "m", "o", "-n", "n + 1", "1 + n", "n - n", "n * 0", "0 * n", "n / 0", "n / 1", "1 % n", "n = n", "n <> n", "n < 1", "1 < n", "n <= n", "n > 1", "1 >= n", "m = m", "o = o", "o <> 'x'", "m < true",
		"o ++ 'x'", "'x' ++ o", "len(o)", "len(o ++ c)", "abs(n)", "cut(o, 1)", "cut(c, n)", "cut(o, n)", "coalesce(n, n)", "if(b, n, 1)", "if(m, 1, n)", "if(false, 1, n)", "(n + 1) * 2", "1 / 0 + 1", "not (1 / 0 = 1)",
	} {
		comes(t, columns(), nulls(), [][2]string{{s, "null"}, {"isnull(" + s + ")", "true"}})
	}
	comes(t, columns(), nulls(), [][2]string{
		{"isnull(a)", "false"}, {"isnull(0)", "false"}, {"isnull(false)", "false"}, {"isnull('')", "false"}, {"isnull(isnull(n))", "false"},
		{"coalesce(n, a)", "7"}, {"coalesce(a, n)", "7"}, {"coalesce(a, 1)", "7"}, {"coalesce(0, 1)", "0"}, {"coalesce(false, true)", "false"}, {"coalesce('', 'x')", "''"}, {"coalesce(o, c)", "'word'"}, {"coalesce(m, b)", "true"}, {"coalesce(1 / 0, 5)", "5"},
		{"if(b, 1, 2)", "1"}, {"if(not b, 1, 2)", "2"}, {"if(m, 1, 2)", "2"}, {"if(b, 1, n)", "1"}, {"if(m, n, 2)", "2"}, {"if(b, c, o)", "'word'"}, {"if(a = 7, b, m)", "true"},
	})
}

func TestE4Texts(t *testing.T) {
	sixty := "'" + many("x", 60) + "'"
	comes(t, columns(), nulls(), [][2]string{
		{"c ++ 's'", "'words'"}, {"'' ++ ''", "''"}, {"c ++ ''", "'word'"}, {"'' ++ c", "'word'"}, {`'\00' ++ '\ff'`, `'\00\ff'`},
		{"len(c)", "4"}, {"len('')", "0"}, {`len('\c3\a9\00')`, "3"}, {"len(" + sixty + ")", "60"},
		{sixty + " ++ 'y'", sixty}, {"'y' ++ " + sixty, "'y" + many("x", 59) + "'"}, {"'" + many("x", 59) + "' ++ 'yz'", "'" + many("x", 59) + "y'"}, {"len(" + sixty + " ++ " + sixty + ")", "60"}, {"cut('a' ++ " + sixty + " ++ 'b', 2)", "'ax'"}, {sixty + " ++ 'y' = " + sixty, "true"}, {`'` + many("x", 59) + `' ++ '\c3\a9'`, "'" + many("x", 59) + `\c3'`},
		{"cut(c, 0)", "''"}, {"cut(c, 1)", "'w'"}, {"cut(c, 3)", "'wor'"}, {"cut(c, 4)", "'word'"}, {"cut(c, 5)", "'word'"}, {"cut(c, -1)", "''"}, {"cut(c, 9223372036854775807)", "'word'"}, {"cut(c, -9223372036854775807 - 1)", "''"}, {"cut('', 1)", "''"}, {"cut(c, 4294967297)", "'word'"}, {`cut('\c3\a9', 1)`, `'\c3'`},
	})
}

func TestE4Fits(t *testing.T) {
	cols := []api.Column{{Name: "a", Kind: api.Int}, {Name: "b", Kind: api.Bool}, {Name: "c", Kind: api.Text}}
	for _, row := range [][]api.Value{
		{value.Of(1), value.Truth(true), value.Words("x")}, {{}, {}, {}}, {value.Of(-1), {}, value.Words(many("x", 60))},
	} {
		comes(t, cols, row, [][2]string{{"a", value.Show(row[0])}, {"b", value.Show(row[1])}, {"c", value.Show(row[2])}, {"1", "1"}})
	}
	good := []api.Value{value.Of(1), value.Truth(true), value.Words("x")}
	bad := [][]api.Value{nil, good[:2], append(good[:3:3], api.Value{}), make([]api.Value, 100000)}
	for i := range good {
		for _, v := range append(good[:3:3], api.Value{Kind: api.Bool, Int: 2}, api.Value{Int: 1}, api.Value{Text: "x"}, api.Value{Kind: api.Int, Text: "x"}, api.Value{Kind: 4}, api.Value{Kind: -1}, value.Words(many("x", 61))) {
			row := []api.Value{good[0], good[1], good[2]}
			if row[i] = v; v != good[i] {
				bad = append(bad, row)
			}
		}
	}
	for _, row := range bad {
		evalTells(t, faulty{"a", api.ErrRange, 0}, cols, row)
		evalTells(t, faulty{"1", api.ErrRange, 0}, cols, row)
		evalTells(t, faulty{"q", api.ErrName, 0}, cols, row)
		evalTells(t, faulty{"a + b", api.ErrType, 0}, cols, row)
		evalTells(t, faulty{"a +", api.ErrSyntax, 0}, cols, row)
	}
	comes(t, nil, nil, [][2]string{{"1 + 1", "2"}})
	comes(t, []api.Column{}, []api.Value{}, [][2]string{{"'x'", "'x'"}})
	evalTells(t, faulty{"1", api.ErrRange, 0}, nil, []api.Value{{}})
	if _, err := expr.Eval("1", make([]api.Column, 1), make([]api.Value, 1)); plain.Told(err) != api.ErrRange {
		t.Error("columns that are none: ", err)
	}
}

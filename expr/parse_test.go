package expr_test

import (
	"testing"

	"streamwright/api"
	"streamwright/expr"
	"streamwright/plain"
)

func TestE2Names(t *testing.T) {
	for _, s := range []string{"a", "Z", "_", "_x1", "twelveletter", "x23456789012", "if", "len", "null", "And", "nota", "int", "stream", "True"} {
		if !expr.Named(s) {
			t.Errorf("%q is no name", s)
		}
		prints(t, s, s)
		prints(t, s+"(1)", s+"(1)")
	}
	for _, s := range []string{
		"", " ", "a ", " a", "a b", "1", "1x", "9", "a-b", "a.b", "a'", "'a'", "é", "a\x00", "a\n", "+", "(",
		"and", "or", "not", "true", "false", "as", "thirteenlette", "x234567890123", many("x", 1000000),
	} {
		if expr.Named(s) {
			t.Errorf("%.20q is a name", s)
		}
	}
	sameFaults(t, []faulty{
		{"and", api.ErrSyntax, 0}, {"or", api.ErrSyntax, 0}, {"as", api.ErrSyntax, 0}, {"a + as", api.ErrSyntax, 4}, {"as(1)", api.ErrSyntax, 0}, {"and(b, b)", api.ErrSyntax, 0}, {"true(1)", api.ErrSyntax, 4}, {"b and and b", api.ErrSyntax, 6}, {"b or or", api.ErrSyntax, 5},
		{"thirteenlette", api.ErrRange, 0}, {"thirteenlette(", api.ErrRange, 0}, {"a + x234567890123 +", api.ErrRange, 4}, {"a thirteenlette", api.ErrSyntax, 2}, {"a b thirteenlette", api.ErrSyntax, 2},
	})
}

func TestE2NumbersAndTexts(t *testing.T) {
	for _, s := range []string{"0", "10", "9223372036854775807", "''", "'a'", `'\27\5c\00\ff'`, "'true'", "'" + many("x", 60) + "'", "true", "false"} {
		prints(t, s, s)
	}
	isKind(t, "0", api.Int)
	isKind(t, "'0'", api.Text)
	isKind(t, "true", api.Bool)
	sameFaults(t, []faulty{
		{"007", api.ErrSyntax, 0}, {"00", api.ErrSyntax, 0}, {"a + 01", api.ErrSyntax, 4}, {"9223372036854775808", api.ErrSyntax, 0}, {"-9223372036854775808", api.ErrSyntax, 1}, {many("9", 200), api.ErrSyntax, 0},
		{`'\41'`, api.ErrSyntax, 0}, {`'\'`, api.ErrSyntax, 0}, {`'\2'`, api.ErrSyntax, 0}, {`'\FF'`, api.ErrSyntax, 0}, {"'a\nb'", api.ErrSyntax, 0}, {"'\x80'", api.ErrSyntax, 0}, {"c ++ '" + many("x", 61) + "'", api.ErrSyntax, 5},
		{"+1", api.ErrSyntax, 0}, {"1.5", api.ErrSyntax, 1},
	})
}

func TestE2TokensThatCannotStand(t *testing.T) {
	sameFaults(t, []faulty{
		{"", api.ErrSyntax, 0}, {"  \n", api.ErrSyntax, 3}, {"(a", api.ErrSyntax, 2}, {"(a  ", api.ErrSyntax, 4}, {"a +", api.ErrSyntax, 3}, {"a + \t", api.ErrSyntax, 5}, {"not", api.ErrSyntax, 3}, {"-", api.ErrSyntax, 1}, {"f(", api.ErrSyntax, 2}, {"f(a", api.ErrSyntax, 3}, {"f(a,", api.ErrSyntax, 4}, {"a <", api.ErrSyntax, 3},
		{"a b", api.ErrSyntax, 2}, {"a 1", api.ErrSyntax, 2}, {"1 'x'", api.ErrSyntax, 2}, {"a)", api.ErrSyntax, 1}, {"()", api.ErrSyntax, 1}, {"(a))", api.ErrSyntax, 3}, {"(a, b)", api.ErrSyntax, 2}, {"a, b", api.ErrSyntax, 1}, {",", api.ErrSyntax, 0}, {"(a b)", api.ErrSyntax, 3},
		{"f(a,)", api.ErrSyntax, 4}, {"f(,a)", api.ErrSyntax, 2}, {"f(,)", api.ErrSyntax, 2}, {"f(a b)", api.ErrSyntax, 4}, {"f(a)(b)", api.ErrSyntax, 4}, {"1(a)", api.ErrSyntax, 1}, {"'f'(a)", api.ErrSyntax, 3}, {"(f)(a)", api.ErrSyntax, 3},
		{"a = not b", api.ErrSyntax, 4}, {"a + not b", api.ErrSyntax, 4}, {"- not b", api.ErrSyntax, 2}, {"a not b", api.ErrSyntax, 2}, {"a < 1 < 2", api.ErrSyntax, 6}, {"a = b = c", api.ErrSyntax, 6}, {"a = 1 <> b and c", api.ErrSyntax, 6}, {"a as b", api.ErrSyntax, 2}, {"a true", api.ErrSyntax, 2},
		{"* a", api.ErrSyntax, 0}, {"a * / b", api.ErrSyntax, 4}, {"a + + b", api.ErrSyntax, 4}, {"a - + b", api.ErrSyntax, 4}, {"= a", api.ErrSyntax, 0}, {"a and", api.ErrSyntax, 5}, {"a or )", api.ErrSyntax, 5}, {"not)", api.ErrSyntax, 3},
	})
}

func TestE2Levels(t *testing.T) {
	for _, s := range []string{
		many("(", 12) + "a" + many(")", 12), many("-", 12) + "a", many("not ", 12) + "b", many("f(", 12) + "a" + many(")", 12), many("f(", 11) + "f()" + many(")", 11),
		many("not (", 6) + "b" + many(")", 6), many("-f(", 6) + many(")", 6),
		"(" + many("-", 11) + "a) + " + many("-", 12) + "a - f(a, " + many("(", 11) + "a" + many(")", 11) + ", -a)", // side by side they do not add up
		many("not ", 12) + "b and " + many("not ", 12) + "b",
		many("(-a) + ", 20) + "a", many("f() + ", 20) + "a",
	} {
		if _, at, err := expr.Print(s); err != nil || at != 0 {
			t.Errorf("Print(%q): %v at %d", s, err, at)
		}
	}
	sameFaults(t, []faulty{
		{many("(", 13) + "a", api.ErrRange, 12}, {many("(", 13), api.ErrRange, 12}, {many("-", 13) + "a", api.ErrRange, 12}, {many("- ", 13) + "a", api.ErrRange, 24}, {many("not ", 13) + "b", api.ErrRange, 48}, {many("abs(", 13) + "a", api.ErrRange, 51},
		{many("f(", 12) + "f()" + many(")", 12), api.ErrRange, 25}, {many("f(", 12) + "f ()", api.ErrRange, 26}, {many("not (", 6) + "-a" + many(")", 6), api.ErrRange, 30}, {many("not ", 6) + many("(", 6) + "not b", api.ErrRange, 30},
		{many("(", 12) + "a + -a" + many(")", 12), api.ErrRange, 16}, {many("(", 12) + "a - a" + many(")", 12) + " b", api.ErrSyntax, 30},
		{many("(", 13) + "a b", api.ErrRange, 12}, {"a b " + many("(", 13), api.ErrSyntax, 2}, {many("f(", 12) + "thirteenlette(a", api.ErrRange, 24},
	})
}

func TestE2Full(t *testing.T) {
	for _, s := range []string{many(" ", 199) + "a", "a" + many(" ", 199), many("a+", 99) + "ab", many("a=b or ", 28) + "a=1 "} {
		if _, _, err := expr.Print(s); err != nil {
			t.Errorf("Print of %d bytes: %v", len(s), err)
		}
	}
	for _, s := range []string{many(" ", 200) + "a", many("a", 201), many("$", 201), many("(", 1000000), "'" + many("x", 200), many(" ", 201)} {
		sameFaults(t, []faulty{{s, api.ErrFull, 0}})
	}
	if _, at, err := expr.Print(many("a", 200)); plain.Told(err) != api.ErrRange || at != 0 {
		t.Errorf("Print of 200 bytes of a name: %v at %d", err, at)
	}
}

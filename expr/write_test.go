package expr_test

import (
	"testing"

	"streamwright/api"
	"streamwright/expr"
	"streamwright/plain"
)

func TestE5Spaces(t *testing.T) {
	for _, c := range [][2]string{
		{"(1+2) * - 3 <a", "(1 + 2) * -3 < a"}, {"not b", "not b"}, {"not  not b", "not not b"}, {"- - a", "--a"}, {"a - - a", "a - -a"}, {"not(b)", "not b"}, {"not - a = 1", "not -a = 1"},
		{"f( )", "f()"}, {"if ( a ,b,  c )", "if(a, b, c)"}, {"f(not b,-a)", "f(not b, -a)"}, {"f(g(a),h())", "f(g(a), h())"}, {"- f (a)", "-f(a)"}, {"'  ' ++c", "'  ' ++ c"}, {"\ttrue\n", "true"},
		{"cut(c ++ 'x', len(c) - 1)", "cut(c ++ 'x', len(c) - 1)"},
	} {
		prints(t, c[0], c[1])
	}
}

func TestE5Brackets(t *testing.T) {
	for _, s := range []string{ // brackets that are needed
		"a - (b + c)", "a + (b + c)", "a + (b - c)", "a ++ (b ++ c)", "a * (b * c)", "a / (b * c)", "a % (b % c)", "a or (b or c)", "a and (b and c)", "a and (b or c)", "(a or b) and c",
		"(a + b) * c", "a * (b + c)", "-(a * b)", "-(a + b)", "-(a = b)", "-(not a)", "(a = b) = c", "a = (b = c)", "(a < b) <> (c > d)", "(not a) = b", "a = (not b)", "(not a) + b", "a + (not b)", "a * (not b)", "(a and b) = c", "(a or b) + c", "a = (b or c)",
		"not (a and b)", "not (a or b)", "not (a = 1 and b)", "-(a or b)", "f((a or b) and c)", "-(a - (b - c))", "a - (b + c) - d",
	} {
		prints(t, s, s)
	}
	for _, c := range [][2]string{ // and those that are not
		{"((a))", "a"}, {"(1)", "1"}, {"('x')", "'x'"}, {"(true)", "true"}, {"(f(a))", "f(a)"}, {"f((a))", "f(a)"}, {"f((a or b), (c))", "f(a or b, c)"}, {"(a + b) - c", "a + b - c"}, {"(a ++ b) ++ c", "a ++ b ++ c"}, {"(a * b) / c", "a * b / c"}, {"(a or b) or c", "a or b or c"}, {"(a and b) and c", "a and b and c"}, {"(a and b) or (c and d)", "a and b or c and d"},
		{"a + (b * c)", "a + b * c"}, {"(a * b) + c", "a * b + c"}, {"a * (-b)", "a * -b"}, {"(-a) * b", "-a * b"}, {"(-a) + (-b)", "-a + -b"}, {"-(-a)", "--a"}, {"-(f(a))", "-f(a)"}, {"-(1)", "-1"}, {"(a + b) = (c - d)", "a + b = c - d"}, {"(-a) = b", "-a = b"}, {"(a = b) and (c < d)", "a = b and c < d"}, {"(a = b) or c", "a = b or c"},
		{"not(not a)", "not not a"}, {"not (a = b)", "not a = b"}, {"not (a + b)", "not a + b"}, {"not (f(a))", "not f(a)"}, {"(not a) and (not b)", "not a and not b"}, {"(not b) or b and b", "not b or b and b"}, {"(not a)", "not a"}, {"a and (not b)", "a and not b"}, {"a or (not b)", "a or not b"}, {"((a - b) - (c - d))", "a - b - (c - d)"}, {"(((a) + (b))) * (((c)))", "(a + b) * c"},
	} {
		prints(t, c[0], c[1])
	}
}

func TestE5KindsDoNotMatter(t *testing.T) {
	for _, s := range []string{"1 and 'x'", "f()", "len()", "len(1, 2, 3)", "z", "not 'x'", "-true", "'a' % 2"} {
		prints(t, s, s)
	}
}

func TestE5MayBeLonger(t *testing.T) {
	prints(t, many("a+", 99)+"ab", many("a + ", 99)+"ab")
	out, _, _ := expr.Print(many("a+", 99) + "a")
	if len(out) <= api.MaxExpr {
		t.Errorf("only %d bytes", len(out))
	}
	if _, at, err := expr.Print(out); plain.Told(err) != api.ErrFull || at != 0 {
		t.Errorf("and once more: %v at %d", err, at)
	}
}

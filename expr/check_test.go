package expr_test

import (
	"slices"
	"testing"

	"streamwright/api"
	"streamwright/expr"
	"streamwright/plain"
	"streamwright/value"
)

// eight has as many columns as there may be.
func eight() []api.Column {
	var l []api.Column
	for i := range api.MaxValues {
		l = append(l, api.Column{Name: string(rune('a' + i)), Kind: api.Kind(1 + i%3)})
	}
	return l
}

// noColumns has lists of which each is wrong in one thing.
func noColumns() [][]api.Column {
	l := [][]api.Column{append(eight(), api.Column{Name: "x", Kind: api.Int}), make([]api.Column, 1), make([]api.Column, 100000)}
	for i := range api.MaxValues {
		for _, name := range []string{"", "1x", "not", "as", "true", "thirteenlette", "a b", "a'", "\xff"} {
			c := eight()
			c[i].Name = name
			l = append(l, c)
		}
		for _, kind := range []api.Kind{api.Null, 4, -1, 1 << 40} {
			c := eight()
			c[i].Kind = kind
			l = append(l, c)
		}
		c := eight()
		c[i].Name = c[(i+3)%8].Name
		l = append(l, c)
	}
	return l
}

func TestE3Columns(t *testing.T) {
	for _, c := range [][]api.Column{nil, {}, columns(), eight(), {{Name: "twelveletter", Kind: api.Text}}, {{Name: "a", Kind: api.Int}, {Name: "A", Kind: api.Int}}, {{Name: "len", Kind: api.Int}, {Name: "if", Kind: api.Bool}}} {
		if !expr.Columns(c) {
			t.Errorf("%v are no columns", c)
		}
		if kind, at, err := expr.Check("1", c); kind != api.Int || at != 0 || err != nil {
			t.Errorf("Check over %v: %v, %v at %d", c, kind, err, at)
		}
	}
	for _, c := range noColumns() {
		if expr.Columns(c) {
			t.Errorf("%v are columns", c)
		}
		checkTells(t, faulty{"  1", api.ErrRange, 0}, c)
		checkTells(t, faulty{"f(q) + not1", api.ErrRange, 0}, c)
		checkTells(t, faulty{"1 2", api.ErrSyntax, 2}, c)
		evalTells(t, faulty{"1", api.ErrRange, 0}, c, nil)
	}
}

func TestE3Kinds(t *testing.T) {
	for _, c := range []struct {
		kind  api.Kind
		texts []string
	}{
		{api.Int, []string{"1", "a", "(n)", "-a", "--1", "a + n", "a - 1", "a * 2", "a / 0", "a % 3", "len(c)", "len('')", "abs(a)", "coalesce(a, n)", "if(b, a, n)", "if(isnull(c), 1, 2) + 1"}},
		{api.Bool, []string{"true", "false", "b", "not b", "b and m", "b or m", "a = n", "b = m", "c = o", "a <> 1", "b <> true", "c <> ''", "a < n", "b < m", "c < o", "a <= n", "b <= m", "c <= o", "a > n", "b > m", "c > o", "a >= n", "b >= m", "c >= o", "isnull(a)", "isnull(b)", "isnull(c)", "isnull(1 = 1)", "coalesce(b, m)", "if(b, b, m)", "not a = 1", "a = 1 and c = 'x' or b"}},
		{api.Text, []string{"''", "c", "c ++ o", "'a' ++ 'b' ++ c", "cut(c, a)", "cut('x', -1)", "coalesce(c, o)", "if(b, c, o)", "cut(c ++ 'x', len(c) - 1)"}},
	} {
		for _, s := range c.texts {
			isKind(t, s, c.kind)
		}
	}
	if kind, _, err := expr.Check("len(len)", []api.Column{{Name: "len", Kind: api.Text}}); kind != api.Int || err != nil {
		t.Errorf("a column with a function's name: %v, %v", kind, err)
	}
}

// ofKind has a part of each kind.
func ofKind() map[api.Kind]string {
	return map[api.Kind]string{api.Int: "1", api.Bool: "b", api.Text: "c"}
}

// TestE3KindsOfTwo holds all signs between parts of all kinds against the
// chapter's list.
func TestE3KindsOfTwo(t *testing.T) {
	signs := map[string]func(x, y api.Kind) api.Kind{}
	of := func(kind, gives api.Kind) func(x, y api.Kind) api.Kind {
		return func(x, y api.Kind) api.Kind {
			if x == y && (x == kind || kind == 0) {
				return gives
			}
			return 0
		}
	}
	for _, s := range []string{"and", "or"} {
		signs[s] = of(api.Bool, api.Bool)
	}
	for _, s := range []string{"=", "<>", "<", "<=", ">", ">="} {
		signs[s] = of(0, api.Bool)
	}
	for _, s := range []string{"+", "-", "*", "/", "%"} {
		signs[s] = of(api.Int, api.Int)
	}
	signs["++"] = of(api.Text, api.Text)
	for sign, gives := range signs {
		for x, left := range ofKind() {
			for y, right := range ofKind() {
				text := left + " " + sign + " " + right
				if want := gives(x, y); want != 0 {
					isKind(t, text, want)
				} else {
					checkTells(t, faulty{text, api.ErrType, 2}, columns())
				}
			}
		}
	}
}

// TestE3KindsOfCalls holds all functions with up to four arguments of all
// kinds against the chapter's list.
func TestE3KindsOfCalls(t *testing.T) {
	gives := map[string]api.Kind{
		"len(c)": api.Int, "abs(1)": api.Int, "cut(c, 1)": api.Text,
		"isnull(1)": api.Bool, "isnull(b)": api.Bool, "isnull(c)": api.Bool,
		"coalesce(1, 1)": api.Int, "coalesce(b, b)": api.Bool, "coalesce(c, c)": api.Text,
		"if(b, 1, 1)": api.Int, "if(b, b, b)": api.Bool, "if(b, c, c)": api.Text,
		"not b": api.Bool, "-1": api.Int,
	}
	met := 0
	arguments := []string{""}
	for from := 0; from < 1+3+9+27; from++ {
		for _, part := range ofKind() {
			next := part
			if arguments[from] != "" {
				next = arguments[from] + ", " + part
			}
			arguments = append(arguments, next)
		}
	}
	for _, list := range arguments {
		for _, f := range []string{"len", "abs", "cut", "isnull", "coalesce", "if"} {
			text := f + "(" + list + ")"
			if want, ok := gives[text]; ok {
				isKind(t, text, want)
				met++
			} else {
				checkTells(t, faulty{text, api.ErrType, 0}, columns())
			}
		}
	}
	for _, part := range ofKind() {
		for _, sign := range []string{"not ", "-"} {
			if want, ok := gives[sign+part]; ok {
				isKind(t, sign+part, want)
				met++
			} else {
				checkTells(t, faulty{sign + part, api.ErrType, 0}, columns())
			}
		}
	}
	if met != len(gives) {
		t.Errorf("%d of %d were met", met, len(gives))
	}
}

func TestE3FirstFault(t *testing.T) {
	for _, c := range []faulty{
		{"z", api.ErrName, 0}, {" z", api.ErrName, 1}, {"A", api.ErrName, 0}, {"null", api.ErrName, 0}, {"len", api.ErrName, 0}, {"a + z", api.ErrName, 4}, {"y + z", api.ErrName, 0},
		{"f(1)", api.ErrName, 0}, {"f()", api.ErrName, 0}, {"f(z)", api.ErrName, 0}, {"f(1 and 2)", api.ErrName, 0}, {"a(1)", api.ErrName, 0}, {"Len(c)", api.ErrName, 0}, {"1 + f(z)", api.ErrName, 4}, {"count()", api.ErrName, 0},
		{"len(z)", api.ErrName, 4}, {"len(z, z)", api.ErrName, 4}, {"len(1, z)", api.ErrName, 7}, {"len(f(z))", api.ErrName, 4}, {"if(1, z, 2)", api.ErrName, 6}, {"if(1 and b, z, 2)", api.ErrType, 5}, {"coalesce(a, b + z)", api.ErrName, 16},
		{"a + c", api.ErrType, 2}, {"a+  c", api.ErrType, 1}, {"not a", api.ErrType, 0}, {"b and not a", api.ErrType, 6}, {"1 - -b", api.ErrType, 4}, {"(a) + (c)", api.ErrType, 4},
		{"(1 + b) * (c + 1)", api.ErrType, 3}, {"(1 + 1) * (c + 1)", api.ErrType, 13}, {"1 + b + z", api.ErrType, 2}, {"z + (1 + b)", api.ErrName, 0}, {"1 + 1 + b", api.ErrType, 6}, {"c = 1 and z", api.ErrType, 2}, {"a = 1 and z", api.ErrName, 10}, {"a and z", api.ErrName, 6}, {"a and b", api.ErrType, 2},
		{"not not a", api.ErrType, 4}, {"--b", api.ErrType, 1}, {"not z", api.ErrName, 4}, {"abs(-b)", api.ErrType, 4}, {"abs(b) + z", api.ErrType, 0}, {"1 + cut(c, c)", api.ErrType, 4}, {"(a = 1) = 1", api.ErrType, 8}, {"-a = b", api.ErrType, 3},
	} {
		checkTells(t, c, columns())
		evalTells(t, c, columns(), nulls())
		evalTells(t, c, columns(), nil) // values that do not fit come behind
	}
	checkTells(t, faulty{"a", api.ErrName, 0}, nil)
}

func TestE3NothingIsWrittenInto(t *testing.T) {
	cols, row := columns(), nulls()
	expr.Columns(cols)
	expr.Check("a + n", cols)
	if _, err := expr.Eval("if(b, c ++ o, c)", cols, row); plain.Told(err) != api.OK {
		t.Error(err)
	}
	if !slices.Equal(cols, columns()) || !slices.Equal(row, nulls()) || row[0] != value.Of(7) {
		t.Error("a list that was handed in was written into")
	}
}

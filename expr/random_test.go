package expr_test

import (
	"math"
	"math/big"
	"math/rand"
	"strings"
	"testing"

	"streamwright/api"
	"streamwright/expr"
	"streamwright/plain"
	"streamwright/value"
)

// tree is an expression as the tests see it: parts with a sign or a function.
type tree struct {
	does  string
	parts []tree
}

// ranks of what joins parts, by the rules of the grammar from the top on.
var ranks = map[string]int{"or": 0, "and": 1, "not": 2, "=": 3, "<>": 3, "<": 3, "<=": 3, ">": 3, ">=": 3, "+": 4, "-": 4, "++": 4, "*": 5, "/": 5, "%": 5, "minus": 6}

func (x tree) rank() int {
	if r, ok := ranks[x.does]; ok {
		return r
	}
	return 7
}

// grown gives a tree of a kind.
func grown(source *rand.Rand, kind api.Kind, depth int) tree {
	if depth == 0 || source.Intn(5) == 0 {
		leaves := map[api.Kind][]string{api.Int: {"a", "n", "0", "1", "2", "9223372036854775807"}, api.Bool: {"b", "m", "true", "false"}, api.Text: {"c", "o", "''", "'xy'", `'\27'`}}[kind]
		return tree{does: leaves[source.Intn(len(leaves))]}
	}
	free := api.Kind(1 + source.Intn(3))
	shapes := map[api.Kind][]tree{}
	add := func(gives api.Kind, does string, kinds ...api.Kind) {
		x := tree{does: does}
		for _, k := range kinds {
			if gives == kind {
				x.parts = append(x.parts, grown(source, k, depth-1))
			}
		}
		shapes[gives] = append(shapes[gives], x)
	}
	picked := []func(){
		func() { add(api.Int, []string{"+", "-", "*", "/", "%"}[source.Intn(5)], api.Int, api.Int) }, func() { add(api.Int, "minus", api.Int) }, func() { add(api.Int, "len", api.Text) }, func() { add(api.Int, "abs", api.Int) },
		func() { add(api.Bool, []string{"or", "and"}[source.Intn(2)], api.Bool, api.Bool) }, func() { add(api.Bool, "not", api.Bool) }, func() { add(api.Bool, []string{"=", "<>", "<", "<=", ">", ">="}[source.Intn(6)], free, free) }, func() { add(api.Bool, "isnull", free) },
		func() { add(api.Text, "++", api.Text, api.Text) }, func() { add(api.Text, "cut", api.Text, api.Int) },
		func() { add(kind, "coalesce", kind, kind) }, func() { add(kind, "if", api.Bool, kind, kind) },
	}
	for len(shapes[kind]) == 0 {
		picked[source.Intn(len(picked))]()
	}
	return shapes[kind][0]
}

// full writes a tree with brackets around all that may have some.
func (x tree) full(space string) string {
	part := func(i int) string {
		return "(" + space + x.parts[i].full(space) + space + ")"
	}
	switch {
	case len(x.parts) == 0:
		return x.does
	case x.does == "not":
		return "not" + space + part(0)
	case x.does == "minus":
		return "-" + space + part(0)
	case x.rank() < 7:
		return part(0) + space + x.does + space + part(1)
	}
	var list []string
	for _, y := range x.parts {
		list = append(list, y.full(space))
	}
	return x.does + "(" + strings.Join(list, ","+space) + ")"
}

// sparse writes a tree as E5 asks for.
func (x tree) sparse() string {
	part := func(i, asked int) string {
		if s := x.parts[i].sparse(); x.parts[i].rank() >= asked {
			return s
		}
		return "(" + x.parts[i].sparse() + ")"
	}
	switch r := x.rank(); {
	case len(x.parts) == 0:
		return x.does
	case x.does == "not":
		return "not " + part(0, 2)
	case x.does == "minus":
		return "-" + part(0, 6)
	case r == 3:
		return part(0, 4) + " " + x.does + " " + part(1, 4)
	case r < 7:
		return part(0, r) + " " + x.does + " " + part(1, r+1)
	}
	var list []string
	for i := range x.parts {
		list = append(list, part(i, 0))
	}
	return x.does + "(" + strings.Join(list, ", ") + ")"
}

// worth computes a tree; nil is Null.
func (x tree) worth(row map[string]any) any {
	if len(x.parts) == 0 {
		if v, ok := row[x.does]; ok {
			return v
		}
		v, _ := value.Read(x.does)
		return plainValue(v)
	}
	var l []any
	null := false
	for _, y := range x.parts {
		v := y.worth(row)
		l, null = append(l, v), null || v == nil
	}
	switch x.does {
	case "and":
		if l[0] == false || l[1] == false {
			return false
		}
	case "or":
		if l[0] == true || l[1] == true {
			return true
		}
	case "isnull":
		return null
	case "coalesce":
		if l[0] == nil {
			return l[1]
		}
		return l[0]
	case "if":
		if l[0] == true {
			return l[1]
		}
		return l[2]
	}
	if null {
		return nil
	}
	return strict(x.does, l)
}

// strict computes what no part of is Null.
func strict(does string, l []any) any {
	switch does {
	case "not":
		return !l[0].(bool)
	case "and", "or":
		return does == "and"
	case "++":
		s := l[0].(string) + l[1].(string)
		return s[:min(len(s), 60)]
	case "len":
		return int64(len(l[0].(string)))
	case "cut":
		s := ""
		for i := int64(0); i < l[1].(int64) && i < int64(len(l[0].(string))); i++ {
			s += l[0].(string)[i : i+1]
		}
		return s
	case "=":
		return l[0] == l[1]
	case "<>":
		return l[0] != l[1]
	case "<":
		return below(l[0], l[1])
	case "<=":
		return !below(l[1], l[0])
	case ">":
		return below(l[1], l[0])
	case ">=":
		return !below(l[0], l[1])
	}
	return number(does, l)
}

func below(x, y any) bool {
	switch x := x.(type) {
	case int64:
		return x < y.(int64)
	case string:
		return x < y.(string)
	}
	return x == false && y == true
}

// number computes with numbers of any length, and cuts what comes out.
func number(does string, l []any) any {
	x, y, z := big.NewInt(l[0].(int64)), big.NewInt(0), new(big.Int)
	if len(l) > 1 {
		y.SetInt64(l[1].(int64))
	}
	switch does {
	case "minus":
		z.Neg(x)
	case "abs":
		z.Abs(x)
	case "+":
		z.Add(x, y)
	case "-":
		z.Sub(x, y)
	case "*":
		z.Mul(x, y)
	default:
		if y.Sign() == 0 {
			return nil
		}
		rest := new(big.Int)
		if z.QuoRem(x, y, rest); does == "%" {
			z = rest
		}
	}
	return int64(z.And(z, new(big.Int).SetUint64(math.MaxUint64)).Uint64())
}

func plainValue(v api.Value) any {
	switch v.Kind {
	case api.Int:
		return v.Int
	case api.Bool:
		return v.Int == 1
	case api.Text:
		return v.Text
	}
	return nil
}

func rows(source *rand.Rand) []api.Value {
	ints := []int64{0, 1, -1, 7, math.MinInt64, math.MaxInt64}
	texts := []string{"", "a", "xy'", many("w", 59), many("w", 60)}
	var row []api.Value
	for range 2 {
		row = append(row, value.Of(ints[source.Intn(len(ints))]), value.Truth(source.Intn(2) == 0), value.Words(texts[source.Intn(len(texts))]))
	}
	for i := range row {
		if source.Intn(4) == 0 {
			row[i] = api.Value{}
		}
	}
	return row
}

// TestE3E4E5AtRandom holds Check, Print and Eval against a second reading of
// the chapter, over trees of all shapes.
func TestE3E4E5AtRandom(t *testing.T) {
	source := rand.New(rand.NewSource(3))
	met := 0
	for met < 10000 {
		kind := api.Kind(1 + source.Intn(3))
		x := grown(source, kind, 1+source.Intn(5))
		text := x.full([]string{"", " ", "\n", " \t"}[source.Intn(4)])
		if strings.Contains(text, "not") || strings.Contains(text, "and") || strings.Contains(text, "or") {
			text = x.full(" ")
		}
		if len(text) > api.MaxExpr {
			continue
		}
		if got, at, err := expr.Check(text, columns()); got != kind || at != 0 || err != nil {
			if plain.Told(err) == api.ErrRange && at > 0 { // more than 12 levels
				continue
			}
			t.Fatalf("Check(%q): %v, %v at %d, want %v", text, got, err, at, kind)
		}
		met++
		sparse := x.sparse()
		prints(t, text, sparse)
		for range 4 {
			row := rows(source)
			named := map[string]any{}
			for i, c := range columns() {
				named[c.Name] = plainValue(row[i])
			}
			want := x.worth(named)
			for _, s := range []string{text, sparse} {
				if len(s) > api.MaxExpr {
					continue
				}
				if got, err := expr.Eval(s, columns(), row); err != nil || plainValue(got) != want || !value.Valid(got) {
					t.Fatalf("Eval(%q) over %v: %+v, %v, want %v", s, row, got, err, want)
				}
			}
		}
		if len(sparse) <= api.MaxExpr {
			prints(t, sparse, sparse)
		}
	}
}

// TestE1E2SoupOfTokens asks for an answer of all faces at any text, and that
// they agree on it.
func TestE1E2SoupOfTokens(t *testing.T) {
	source := rand.New(rand.NewSource(4))
	pieces := []string{"a", "b", "c", "z", "and", "or", "not", "true", "as", "1", "007", "1x", "'x'", "'", "+", "-", "*", "/", "%", "++", "=", "<>", "<", "<=", "(", "(", ")", ")", ",", "len", "if", "f", "thirteenlette", "$", "\xff", "\x00"}
	good := 0
	for range 100000 {
		var s strings.Builder
		for range source.Intn(9) {
			s.WriteString(pieces[source.Intn(len(pieces)-source.Intn(2)*4)])
			s.WriteString([]string{"", " ", " ", "\n"}[source.Intn(4)])
		}
		text := s.String()
		out, at, err := expr.Print(text)
		kind, checkAt, checkErr := expr.Check(text, columns())
		v, evalErr := expr.Eval(text, columns(), nulls())
		if plain.Told(checkErr) != plain.Told(evalErr) || checkErr != nil && (kind != 0 || v != (api.Value{})) {
			t.Fatalf("%q: Check %v %v, Eval %+v %v", text, kind, checkErr, v, evalErr)
		}
		if err != nil {
			if out != "" || plain.Told(checkErr) != plain.Told(err) || checkAt != at || at < 0 || at > len(text) {
				t.Fatalf("%q: Print %q %v at %d, Check %v at %d", text, out, err, at, checkErr, checkAt)
			}
			continue
		}
		if checkErr == nil && (checkAt != 0 || v.Kind != kind && v != (api.Value{}) || !value.Valid(v)) {
			t.Fatalf("%q: %v at %d, %+v", text, kind, checkAt, v)
		}
		good++
		prints(t, out, out)
	}
	if good < 1000 {
		t.Errorf("only %d were expressions", good)
	}
}

package expr_test

import (
	"testing"

	"streamwright/api"
	"streamwright/expr"
	"streamwright/plain"
)

func TestE1WhatStandsBetween(t *testing.T) {
	for _, c := range [][2]string{
		{"a+1", "a + 1"}, {" \t\n a \n+\t1\n\n", "a + 1"}, {"not\tb", "not b"}, {"not\nb", "not b"},
		{"'x'and'y'", "'x' and 'y'"}, {"(b)and(b)", "b and b"}, {"f\t(\n)", "f()"}, {"a<-1", "a < -1"},
		{"'  x\\09 '", "'  x\\09 '"},
	} {
		prints(t, c[0], c[1])
	}
}

func TestE1LongerSignsFirst(t *testing.T) {
	for _, c := range [][2]string{
		{"a<>b", "a <> b"}, {"a<=b", "a <= b"}, {"a>=b", "a >= b"}, {"a++b", "a ++ b"},
		{"a=b", "a = b"}, {"a<b", "a < b"}, {"a>b", "a > b"}, {"a+b", "a + b"}, {"a-b", "a - b"}, {"a*b", "a * b"}, {"a/b", "a / b"}, {"a%b", "a % b"},
		{"a--b", "a - -b"}, {"a++-b", "a ++ -b"}, {"f(a,b)", "f(a, b)"},
	} {
		prints(t, c[0], c[1])
	}
	sameFaults(t, []faulty{
		{"a < > b", api.ErrSyntax, 4}, {"a< =b", api.ErrSyntax, 3}, {"a+ +b", api.ErrSyntax, 3}, {"a+++b", api.ErrSyntax, 3},
		{"a==b", api.ErrSyntax, 2}, {"a=<b", api.ErrSyntax, 2}, {"a><b", api.ErrSyntax, 2}, {"a<=>b", api.ErrSyntax, 3}, {"a<<>b", api.ErrSyntax, 2},
	})
}

func TestE1AsManyAsThereAre(t *testing.T) {
	for _, s := range []string{"a1", "_", "A_z", "notb", "andy", "trues", "False", "NOT", "z9Z_0"} {
		prints(t, s, s)
	}
	sameFaults(t, []faulty{
		{"1a", api.ErrSyntax, 0}, {"1and 2", api.ErrSyntax, 0}, {"a and1", api.ErrSyntax, 2}, {"a = 1_0", api.ErrSyntax, 4},
		{"0x1", api.ErrSyntax, 0}, {"1e3", api.ErrSyntax, 0}, {"12 34", api.ErrSyntax, 3}, {"'a''b'", api.ErrSyntax, 3}, {"a'b'", api.ErrSyntax, 1},
	})
}

func TestE1WhatIsNoToken(t *testing.T) {
	for c := range 256 {
		sign := string([]byte{byte(c)})
		known := c == ' ' || c == '\t' || c == '\n' || c == '_' || c >= '0' && c <= '9' || c >= 'a' && c <= 'z' || c >= 'A' && c <= 'Z'
		for _, s := range "=<>+-*/%(),'" {
			known = known || c == int(s)
		}
		// The bracket ahead is a fault too, but a later one.
		_, at, err := expr.Print(") " + sign)
		if want := map[bool]int{true: 0, false: 2}[known && c != '\'']; plain.Told(err) != api.ErrSyntax || at != want {
			t.Errorf("a text with the byte %d: %v at %d, want ErrSyntax at %d", c, err, at, want)
		}
	}
}

func TestE1IsToldAheadOfAllOthers(t *testing.T) {
	sameFaults(t, []faulty{
		{"'a", api.ErrSyntax, 0}, {"'", api.ErrSyntax, 0}, {"a '", api.ErrSyntax, 2}, {"'a' 'b", api.ErrSyntax, 4}, {"a = 'b + c", api.ErrSyntax, 4},
		{"a $", api.ErrSyntax, 2}, {"$", api.ErrSyntax, 0}, {"a.b", api.ErrSyntax, 1}, {"a \r b", api.ErrSyntax, 2}, {"a!=b", api.ErrSyntax, 1}, {"\"a\"", api.ErrSyntax, 0}, {"é", api.ErrSyntax, 0}, {"a\x00", api.ErrSyntax, 1},
		{") $", api.ErrSyntax, 2}, {"thirteenlette $", api.ErrSyntax, 14}, {many("(", 14) + "#", api.ErrSyntax, 14}, {"007 a b & |", api.ErrSyntax, 8}, {"f(1) + z ;", api.ErrSyntax, 9},
		{"? 'a", api.ErrSyntax, 0}, {"'a ?", api.ErrSyntax, 0},
	})
}

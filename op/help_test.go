package op_test

import (
	"bytes"
	"fmt"
	"slices"
	"strings"
	"testing"

	"streamwright/api"
	"streamwright/op"
	"streamwright/plain"
	"streamwright/value"
)

// Keys by their groups.
const (
	inGroup2  = 1
	inGroup13 = 2
	inGroup14 = 5
	inGroup20 = 7
)

func tumble(size int64) api.Windows      { return api.Windows{Kind: 1, Size: size} }
func slide(size, step int64) api.Windows { return api.Windows{Kind: 2, Size: size, Step: step} }
func session(size int64) api.Windows     { return api.Windows{Kind: 3, Size: size} }
func whole() api.Windows                 { return api.Windows{Kind: 4} }

func cols(names string, kinds ...api.Kind) []api.Column {
	var l []api.Column
	for i, name := range strings.Fields(names) {
		l = append(l, api.Column{Name: name, Kind: kinds[i]})
	}
	return l
}

// abc has a column of each kind.
func abc() []api.Column { return cols("a b c", api.Int, api.Bool, api.Text) }

// kv has two columns of Ints, as the rows that row makes.
func kv() []api.Column { return cols("k v", api.Int, api.Int) }

// xy has two others.
func xy() []api.Column { return cols("x y", api.Int, api.Int) }

func row(time int64, l ...int64) api.Row {
	r := api.Row{Time: time}
	for _, n := range l {
		r.Values = append(r.Values, value.Of(n))
	}
	return r
}

// mixed makes a row of values by what they are in Go.
func mixed(time int64, l ...any) api.Row {
	r := api.Row{Time: time}
	for _, x := range l {
		switch v := x.(type) {
		case int:
			r.Values = append(r.Values, value.Of(int64(v)))
		case bool:
			r.Values = append(r.Values, value.Truth(v))
		case string:
			r.Values = append(r.Values, value.Words(v))
		default:
			r.Values = append(r.Values, api.Value{})
		}
	}
	return r
}

func where(text string) api.Op {
	return api.Op{Kind: api.OpWhere, Columns: abc(), Exprs: []string{text}}
}

// mapped has each expression under a name of its own.
func mapped(texts ...string) api.Op {
	o := api.Op{Kind: api.OpMap, Columns: abc(), Exprs: texts}
	for i := range texts {
		o.Names = append(o.Names, fmt.Sprint("n", i))
	}
	return o
}

// counted counts by the first column.
func counted(w api.Windows) api.Op {
	return api.Op{Kind: api.OpWindow, Columns: kv(), Keys: []int{0}, Windows: w, Aggs: []api.Agg{{Kind: api.Count, At: -1}}, Names: []string{"n"}}
}

// summed has the sum of the second column, of all rows.
func summed(w api.Windows) api.Op {
	return api.Op{Kind: api.OpWindow, Columns: kv(), Windows: w, Aggs: []api.Agg{{Kind: api.Sum, At: 1}}, Names: []string{"s"}}
}

// joined joins by the first columns.
func joined(w api.Windows, outer bool) api.Op {
	return api.Op{Kind: api.OpJoin, Columns: kv(), Right: xy(), Keys: []int{0}, Others: []int{0}, Windows: w, Outer: outer}
}

func some(t *testing.T, o api.Op, lo, hi int) *op.Operator {
	t.Helper()
	x, err := op.New(o, lo, hi)
	if err != nil || x == nil {
		t.Fatalf("New(%+v, %d, %d): %v", o, lo, hi, err)
	}
	return x
}

// shown writes rows: the time, the values.
func shown(l []api.Row) string {
	var b strings.Builder
	for _, r := range l {
		fmt.Fprintf(&b, "%d:", r.Time)
		for _, v := range r.Values {
			b.WriteString(" " + value.Show(v))
		}
		b.WriteString("; ")
	}
	return b.String()
}

// takes lets a row in, and checks what comes of it at once.
func takes(t *testing.T, x *op.Operator, input int, r api.Row, want string) {
	t.Helper()
	if l, err := x.Row(input, r); err != nil || shown(l) != want {
		t.Errorf("Row(%d, %s): %q, %v, want %q", input, shown([]api.Row{r}), shown(l), err, want)
	}
}

// fed lets rows of the first input in.
func fed(t *testing.T, x *op.Operator, rows ...api.Row) *op.Operator {
	t.Helper()
	for _, r := range rows {
		takes(t, x, 0, r, "")
	}
	return x
}

// told tells a time, and checks what comes of it.
func told(t *testing.T, x *op.Operator, time int64, want string) {
	t.Helper()
	if l, err := x.Time(time); err != nil || shown(l) != want {
		t.Errorf("Time(%d): %q, %v, want %q", time, shown(l), err, want)
	}
}

// refused checks which error a row leads to.
func refused(t *testing.T, x *op.Operator, input int, r api.Row, want api.Errno) {
	t.Helper()
	if l, err := x.Row(input, r); plain.Told(err) != want || l != nil {
		t.Errorf("Row(%d, %+v): %q, %v, want %v", input, r, shown(l), err, want)
	}
}

func samePiece(a, b api.Piece) bool { return a.Group == b.Group && bytes.Equal(a.Bytes, b.Bytes) }

func samePieces(a, b []api.Piece) bool { return slices.EqualFunc(a, b, samePiece) }

func copyPieces(l []api.Piece) []api.Piece {
	l = slices.Clone(l)
	for i := range l {
		l[i].Bytes = bytes.Clone(l[i].Bytes)
	}
	return l
}

package job_test

import (
	"fmt"
	"math/rand"
	"slices"
	"strings"
	"testing"

	"streamwright/api"
	"streamwright/job"
	"streamwright/plain"
)

// maker makes nodes with what Parse should give of them, the tokens that say
// so, and the line that Print should write.
type maker struct {
	*rand.Rand
	nodes   []api.Node
	weights []int
}

// pick gives one of some.
func pick[T any](m *maker, l ...T) T { return l[m.Intn(len(l))] }

// input gives a node that is no sink; there is a stream at first.
func (m *maker) input() int {
	for {
		if at := m.Intn(len(m.nodes)); m.nodes[at].Op.Kind != api.OpSink {
			return at
		}
	}
}

// expression of a kind over columns: as it may stand there, and as it is printed.
func (m *maker) expression(kind api.Kind, cols []api.Column) (string, string) {
	for _, at := range m.Perm(len(cols)) {
		if cols[at].Kind == kind && m.Intn(2) == 0 {
			return pick(m, cols[at].Name, "( "+cols[at].Name+")"), cols[at].Name
		}
	}
	l := map[api.Kind][][2]string{
		api.Int:  {{"(1)", "1"}, {"1+(2*3)", "1 + 2 * 3"}, {"- - 1", "--1"}, {"if (true,1,2)", "if(true, 1, 2)"}, {"len ( 'as,' )", "len('as,')"}},
		api.Bool: {{"true", "true"}, {"not(true and(false))", "not (true and false)"}, {"1<2", "1 < 2"}, {"isnull( 1 )", "isnull(1)"}},
		api.Text: {{"''", "''"}, {"'a'++('b')", "'a' ++ 'b'"}, {"cut('a,b',(1))", "cut('a,b', 1)"}, {"coalesce ('x' ,'as')", "coalesce('x', 'as')"}},
	}[kind]
	c := pick(m, l...)
	return c[0], c[1]
}

// names gives as many, each another one.
func (m *maker) names(n int) []string {
	l := strings.Fields("a b c d e f g h int sum x_1 ABC")
	m.Shuffle(len(l), func(i, j int) { l[i], l[j] = l[j], l[i] })
	return l[:n]
}

func (m *maker) stream(n *api.Node) string {
	n.Op.Kind = api.OpSource
	var list []string
	for _, name := range m.names(1 + m.Intn(api.MaxValues)) {
		kind := api.Kind(1 + m.Intn(3))
		n.Columns = append(n.Columns, api.Column{Name: name, Kind: kind})
		list = append(list, name+" "+[]string{"", "int", "bool", "text"}[kind])
	}
	n.Op.Columns = n.Columns
	line := "stream " + n.Name + " (" + strings.Join(list, ", ") + ")"
	if n.Bound = pick(m, 0, 1, int64(m.Intn(1000)), api.MaxBound); n.Bound > 0 {
		line += fmt.Sprint(" late ", n.Bound)
	}
	return line
}

func (m *maker) windows() (api.Windows, string) {
	size := 1 + m.Int63n(100)
	switch w := (api.Windows{Kind: 1 + m.Intn(4), Size: size}); w.Kind {
	case api.Tumble:
		return w, fmt.Sprint("in tumble ", size)
	case api.Slide:
		w.Step = size - m.Int63n(size/4+1)
		return w, fmt.Sprint("in slide ", size, " every ", w.Step)
	case api.Session:
		return w, fmt.Sprint("in session ", size)
	}
	return api.Windows{Kind: api.Whole}, "in whole"
}

func (m *maker) work(n *api.Node) string {
	from := m.nodes[m.input()]
	n.Inputs = []int{slices.IndexFunc(m.nodes, func(o api.Node) bool { return o.Name == from.Name })}
	n.Op.Columns, n.Columns = from.Columns, from.Columns
	start := n.Name + " = " + from.Name
	switch n.Op.Kind = 2 + m.Intn(6); n.Op.Kind {
	case api.OpSink:
		return "sink " + start
	case api.OpWhere:
		said, printed := m.expression(api.Bool, from.Columns)
		n.Op.Exprs = []string{printed}
		return start + " where \x00" + said + "\x01" + printed + "\x02"
	case api.OpMap:
		return start + " select " + m.selected(n)
	case api.OpWindow:
		return start + " by " + m.window(n)
	case api.OpUnion:
		n.Inputs = append(n.Inputs, n.Inputs...)
		return start + " union " + from.Name
	}
	return start + m.join(n)
}

func (m *maker) selected(n *api.Node) string {
	var list []string
	n.Columns = nil
	for _, name := range m.names(1 + m.Intn(4)) {
		kind := api.Kind(1 + m.Intn(3))
		said, printed := m.expression(kind, n.Op.Columns)
		n.Op.Exprs, n.Op.Names = append(n.Op.Exprs, printed), append(n.Op.Names, name)
		n.Columns = append(n.Columns, api.Column{Name: name, Kind: kind})
		list = append(list, "\x00"+said+"\x01"+printed+"\x02 as "+name)
	}
	return strings.Join(list, ", ")
}

func (m *maker) window(n *api.Node) string {
	n.Columns = nil
	var keys []string
	for _, at := range m.Perm(len(n.Op.Columns)) {
		if m.Intn(3) == 0 && len(keys) < 4 {
			n.Op.Keys, keys = append(n.Op.Keys, at), append(keys, n.Op.Columns[at].Name)
			n.Columns = append(n.Columns, n.Op.Columns[at])
		}
	}
	line := strings.Join(keys, ", ")
	if keys == nil {
		line = "nothing"
	}
	w, said := m.windows()
	n.Op.Windows = w
	line += " " + said
	for i := range m.Intn(3) {
		name := fmt.Sprint("new", i)
		word, one, kind := "count()", api.Agg{Kind: api.Count, At: -1}, api.Int
		if len(n.Op.Columns) > 0 && m.Intn(2) == 0 {
			at, way := m.Intn(len(n.Op.Columns)), pick(m, api.Min, api.Max, api.First, api.Last, api.Distinct)
			one, kind = api.Agg{Kind: way, At: at}, n.Op.Columns[at].Kind
			if way == api.Distinct {
				kind = api.Int
			}
			word = []string{"min", "max", "first", "last", "distinct"}[way-api.Min] + "(" + n.Op.Columns[at].Name + ")"
		}
		n.Op.Aggs, n.Op.Names = append(n.Op.Aggs, one), append(n.Op.Names, name)
		n.Columns = append(n.Columns, api.Column{Name: name, Kind: kind})
		line += []string{" give ", ", "}[min(i, 1)] + word + " as " + name
	}
	return line
}

func (m *maker) join(n *api.Node) string {
	at := m.input()
	n.Inputs = append(n.Inputs, at)
	n.Op.Right = m.nodes[at].Columns
	n.Columns = slices.Concat(n.Op.Columns, n.Op.Right)
	line, word := " join "+m.nodes[at].Name, " on "
	if n.Op.Outer = m.Intn(2) == 0; n.Op.Outer {
		line = " outer" + line
	}
	for i, a := range n.Op.Columns {
		for k, b := range n.Op.Right {
			if a.Kind == b.Kind && len(n.Op.Keys) < 8 {
				n.Op.Keys, n.Op.Others = append(n.Op.Keys, i), append(n.Op.Others, k)
				line += word + a.Name + " = " + b.Name
				word = " and "
			}
		}
	}
	w, said := m.windows()
	n.Op.Windows = w
	return line + " " + said
}

// may tells whether a node that was made is one that may be.
func (m *maker) may(n api.Node) bool {
	met := map[string]int{}
	for _, c := range n.Columns {
		met[c.Name]++
	}
	m.weights = append(m.weights[:len(m.nodes)], weighs(n, m.weights))
	return len(met) == len(n.Columns) && len(n.Columns) <= 8 && m.weights[len(m.nodes)] <= 20000 && (n.Op.Kind != api.OpJoin || len(n.Op.Keys) > 0)
}

// weighs reads J4 once more.
func weighs(n api.Node, l []int) int {
	times := 1
	if w := n.Op.Windows; w.Kind == api.Slide {
		times = 0
		for at := int64(0); at < w.Size; at += w.Step {
			times++
		}
	}
	switch n.Op.Kind {
	case api.OpSource:
		return 100
	case api.OpWindow:
		return l[n.Inputs[0]] * times
	case api.OpJoin:
		return l[n.Inputs[0]] * l[n.Inputs[1]] * times
	}
	sum := 0
	for _, at := range n.Inputs {
		sum += l[at]
	}
	return sum
}

// expressionsOf gives a line with its expressions as they may stand there,
// or as they are printed.
func expressionsOf(line string, printed bool) string {
	for {
		from, rest, ok := strings.Cut(line, "\x00")
		if !ok {
			return line
		}
		said, rest, _ := strings.Cut(rest, "\x01")
		print, rest, _ := strings.Cut(rest, "\x02")
		if printed {
			said = print
		}
		line = from + said + rest
	}
}

// noise puts spaces and tabs where they may stand, or takes them away.
func (m *maker) noise(line string) string {
	var b strings.Builder
	within := false
	for i := range len(line) {
		c := line[i]
		if c == '\'' {
			within = !within
		}
		switch {
		case within:
			b.WriteByte(c)
		case strings.IndexByte("(),=", c) >= 0 && !strings.Contains(line, "<="):
			b.WriteString(pick(m, "", " ", "\t") + string(c) + pick(m, "", " "))
		case c == ' ':
			b.WriteString(pick(m, " ", "  ", "\t", " \t "))
		default:
			b.WriteByte(c)
		}
	}
	return pick(m, "", " ", "\n", "# no line\n\n") + b.String() + pick(m, "", " ", "#", " # = ( '")
}

// text makes a job: what stands there, and what is printed.
func (m *maker) text(size int) (string, string) {
	var said, printed strings.Builder
	for len(m.nodes) < size {
		n := api.Node{Name: fmt.Sprint(pick(m, "n", "late", "N_"), len(m.nodes))}
		line := ""
		if len(m.nodes) == 0 || m.Intn(4) == 0 {
			line = m.stream(&n)
		} else {
			line = m.work(&n)
		}
		if m.may(n) {
			m.nodes = append(m.nodes, n)
			said.WriteString(m.noise(expressionsOf(line, false)) + "\n")
			printed.WriteString(expressionsOf(line, true) + "\n")
		}
	}
	return said.String(), printed.String()
}

// TestJ5Random holds jobs that were made against what they should be read as.
func TestJ5Random(t *testing.T) {
	for seed := range int64(2000) {
		m := &maker{Rand: rand.New(rand.NewSource(seed))}
		text, printed := m.text(1 + m.Intn(api.MaxNodes))
		if len(text) > api.MaxJob {
			continue
		}
		j, line, err := job.Parse(text)
		if err != nil || line != 0 {
			t.Fatalf("%d: %v, line %d:\n%s", seed, err, line, text)
		}
		same(t, text, j.Nodes, m.nodes)
		same(t, text, job.Weight(j), m.weights[:len(m.nodes)])
		apart(t, text, j)
		prints(t, text, printed)
		if t.Failed() {
			t.Fatal(seed)
		}
	}
}

// spoilt gives a text with a byte less, a piece of it twice, something put
// in, or one of its words in the place of another one.
func (m *maker) spoilt(text string) string {
	at, to := m.Intn(len(text)), m.Intn(len(text))
	words := strings.FieldsFunc(text, func(r rune) bool { return strings.ContainsRune(" \t\n(),=#'", r) })
	one, other := pick(m, words...), pick(m, words...)
	place := strings.LastIndex(text, one)
	return pick(m,
		text[:at]+text[at+1:],
		text[:at]+text[to:min(len(text), to+7)]+text[at:],
		text[:at]+pick(m, "(", ",", " as ", " and ", "=", "0", "x", "#", "'", "\n", "$", " in ")+text[at:],
		text[:place]+other+text[place+len(one):],
	)
}

// TestJ3RandomFaults spoils jobs: whatever comes, Parse and Print say the
// same, the fault is in a line that there is, and all lines ahead are a job.
func TestJ3RandomFaults(t *testing.T) {
	told := map[api.Errno]int{}
	for seed := range int64(3000) {
		m := &maker{Rand: rand.New(rand.NewSource(seed))}
		text, _ := m.text(2 + m.Intn(6))
		for range 1 + m.Intn(2) {
			text = m.spoilt(text)
		}
		if len(text) > api.MaxJob {
			continue
		}
		j, line, err := job.Parse(text)
		out, again, also := job.Print(text)
		if plain.Told(err) != plain.Told(also) || line != again {
			t.Fatalf("%q: %v, line %d; %v, line %d", text, err, line, also, again)
		}
		told[plain.Told(err)]++
		lines := strings.Split(text, "\n")
		if err == nil {
			same(t, text, reads(t, out), j.Nodes)
			prints(t, out, out)
			continue
		}
		if j.Nodes != nil || out != "" || line < 1 || line > len(lines) {
			t.Fatalf("%q: %v, line %d, %v", text, err, line, j)
		}
		reads(t, strings.Join(lines[:line-1], "\n"))
		tells(t, strings.Join(lines[:line], "\n"), plain.Told(err), line)
	}
	for why := api.OK; why <= api.ErrRange; why++ {
		if told[why] == 0 {
			t.Errorf("%v was never met", why)
		}
	}
}

package job_test

import (
	"strings"
	"testing"

	"streamwright/api"
	"streamwright/job"
)

func TestJ1Lines(t *testing.T) {
	for _, text := range []string{"", "\n", "\n\n\n", " ", "\t \n \t", "#", "# stream", "#\n#\n", "  # $ ' \\ \x00\xff", "##", strings.Repeat("\n", 3000)} {
		if nodes := reads(t, text); nodes != nil {
			t.Errorf("%q: %v", text, nodes)
		}
	}
	want := reads(t, "stream s (a int) late 5\nsink x = s")
	for _, text := range []string{
		"stream s (a int) late 5\nsink x = s\n", "\n\nstream s (a int) late 5\n\n \t\nsink x = s\n\n", "stream s(a int)late 5#\nsink x=s#", "\tstream\ts\t(\ta\tint\t)\tlate\t5\t\n  sink   x  =  s  ",
		"stream s (a int) late 5 # , ( ' sink\nsink x = s # $", "# first\nstream s (a int) late 5\n# second\nsink x = s\n# third",
	} {
		same(t, text, reads(t, text), want)
	}
}

// TestJ1Comment: what is left out begins at the first sign, within a text, too.
func TestJ1Comment(t *testing.T) {
	tells(t, head+"x = s where b = '#'", api.ErrSyntax, 4)
	tells(t, head+"x = s where b = 'a#b'", api.ErrSyntax, 4)
	same(t, "an expression ends there", last(t, "x = s where c # or a > 1").Op.Exprs, "[c]")
	same(t, "a line goes no further", last(t, "x = s where c # as\n").Op.Exprs, "[c]")
}

// TestJ1LinesAreCut: no line goes on in the next one.
func TestJ1LinesAreCut(t *testing.T) {
	tells(t, "stream s (a\nint)", api.ErrSyntax, 1)
	tells(t, head+"x = s\nwhere true", api.ErrSyntax, 4)
	tells(t, head+"x = s where true and\nfalse", api.ErrSyntax, 4)
	tells(t, head+"x = s where b = 'a\nb'", api.ErrSyntax, 4)
	tells(t, head+"x = s where c x = s where c", api.ErrSyntax, 4)
	tells(t, "stream s (a int)\r\n", api.ErrSyntax, 1)
}

func TestJ1Names(t *testing.T) {
	for _, name := range []string{"x", "_", "A", "a", "int", "bool", "text", "sum", "min", "max", "first", "last", "count", "distinct", "len", "if", "null", "Stream", "SINK", "streams", "in_", "twelveletter", "x1234567890_"} {
		for _, line := range []string{"stream NAME (a int)", "sink NAME = s", "NAME = s where c", "NAME = s select a as x", "NAME = s by a in whole", "NAME = s union s", "NAME = s join o on b = d in whole"} {
			if n := last(t, strings.ReplaceAll(line, "NAME", name)); n.Name != name {
				t.Errorf("%s: %q", name, n.Name)
			}
		}
		same(t, name, last(t, "stream q ("+name+" int)").Columns, columns(name, api.Int))
		same(t, name, last(t, "x = s select 1 as "+name).Columns, columns(name, api.Int))
		same(t, name, last(t, "x = s by nothing in whole give count() as "+name).Columns, columns(name, api.Int))
		same(t, name, last(t, "stream "+name+" (z int)\nw = "+name+" where true").Inputs, []int{3})
		same(t, name, last(t, "stream q ("+name+" int)\nx = q by "+name+" in whole").Op.Keys, []int{0})
	}
}

func TestJ1NoNames(t *testing.T) {
	words := strings.Fields("stream sink late where select by in give join outer on union tumble slide every session whole nothing and or not true false as")
	for _, word := range append(words, "1", "1x", "'x'", "(", ")", ",", "=", "-", "++", "") {
		for _, line := range []string{
			"stream NAME (a int)", "stream q (NAME int)", "stream q (a int, NAME int)",
			"sink NAME = s", "sink x = NAME", "NAME = s where c", "x = NAME where c",
			"x = s select a as NAME", "x = s select a as y, b as NAME",
			"x = s by a, NAME in whole", "x = s by a in whole give sum(NAME) as y", "x = s by a in whole give sum(a) as NAME", "x = s by a in whole give count() as y, count() as NAME",
			"x = s union NAME", "x = s union s, NAME",
			"x = s join NAME on b = d in whole", "x = s join o on NAME = d in whole", "x = s join o on b = NAME in whole", "x = s join o on b = d and NAME = e in whole", "x = s outer join NAME on b = d in whole",
		} {
			behindHead(t, api.ErrSyntax, strings.ReplaceAll(line, "NAME", word))
		}
		if word != "nothing" {
			behindHead(t, api.ErrSyntax, "x = s by "+word+" in whole")
		}
	}
}

func TestJ1Numbers(t *testing.T) {
	if n := last(t, "stream q (a int) late 1048576"); n.Bound != 1<<20 {
		t.Error(n.Bound)
	}
	for _, no := range []string{"", "-1", "+1", "01", "00", "1x", "1_0", "x", "'1'", "true", "null", "9223372036854775808", "99999999999999999999999", "1 2", "1,", "(1)"} {
		behindHead(t, api.ErrSyntax, "stream q (a int) late "+no, "x = s by a in tumble "+no, "x = s by a in session "+no, "x = s by a in slide "+no+" every 1", "x = s by a in slide 5 every "+no)
	}
	behindHead(t, api.ErrRange, "stream q (a int) late 9223372036854775807", "x = s by a in tumble 9223372036854775807", "x = s by a in slide 9223372036854775807 every 9223372036854775807", "x = s by a in session 9223372036854775807")
}

// TestJ1Exprs: which tokens are an expression's.
func TestJ1Exprs(t *testing.T) {
	for _, c := range []struct{ line, want string }{
		{"x = s where c", "[c]"}, {"x = s where(c)", "[c]"}, {"x = s where  not  c\t", "[not c]"}, {"x = s where a>1 and(b='as, (' or c)", "[a > 1 and (b = 'as, (' or c)]"}, {"x = s where if(c, a, 2) > coalesce(a, 1)", "[if(c, a, 2) > coalesce(a, 1)]"},
		{"x = s select a as y", "[a]"}, {"x = s select (a)as y,(b)as z", "[a b]"}, {"x = s select if(c, 1, 2) as y, ((coalesce(a, (3)))) as z", "[if(c, 1, 2) coalesce(a, 3)]"}, {"x = s select if((c), (1), (2)) as y, if(not (isnull((a))), abs(a), 2) as z", "[if(c, 1, 2) if(not isnull(a), abs(a), 2)]"}, {"x = s select 'a, b' as y, b ++ ' as ' as z", "['a, b' b ++ ' as ']"}, {"x = s select cut(b, len(b) - 1) as y, -a as z, 1 as w", "[cut(b, len(b) - 1) -a 1]"},
	} {
		same(t, c.line, last(t, c.line).Op.Exprs, c.want)
	}
	behindHead(t, api.ErrSyntax,
		"x = s where", "x = s where as", "x = s where ,", "x = s where c,", "x = s where c, c", "x = s where c as y", "x = s where (c", "x = s where c)", "x = s where (c, c)", "x = s where c c", "x = s where (c as y)",
		"x = s select", "x = s select as y", "x = s select a", "x = s select a as", "x = s select a as y,", "x = s select a as y z", "x = s select a as y, b", "x = s select a as y b as z", "x = s select a, b as y", "x = s select , a as y", "x = s select (a as y", "x = s select a) as y", "x = s select (a, b) as y", "x = s select (a as y) as z", "x = s select if(c, 1, 2 as y", "x = s select a as y as z", "x = s select a y",
	)
}

func TestJ2Stream(t *testing.T) {
	cols := columns("who n ok", api.Text, api.Int, api.Bool)
	want := api.Node{Name: "q", Op: api.Op{Kind: api.OpSource, Columns: cols}, Columns: cols}
	same(t, "without late", last(t, "stream q (who text, n int, ok bool)"), want)
	same(t, "late 0", last(t, "stream q (who text, n int, ok bool) late 0"), want)
	want.Bound = 7
	same(t, "late 7", last(t, "stream q(who text,n int,ok bool)late 7"), want)
	eight := columns("a b c d e f g h", 1, 1, 1, 1, 1, 1, 1, 1)
	same(t, "eight", last(t, "stream q (a int, b int, c int, d int, e int, f int, g int, h int)").Columns, eight)
}

func TestJ2OneInput(t *testing.T) {
	for _, c := range []struct {
		line string
		want api.Node
	}{
		{"sink x = o", api.Node{Name: "x", Op: api.Op{Kind: api.OpSink, Columns: de()}, Inputs: []int{1}, Columns: de()}},
		{"x = o where (e>1)", api.Node{Name: "x", Op: api.Op{Kind: api.OpWhere, Columns: de(), Exprs: []string{"e > 1"}}, Inputs: []int{1}, Columns: de()}},
		{"x = r select a+1 as n, b as a, 'x' as b", api.Node{Name: "x", Op: api.Op{Kind: api.OpMap, Columns: abc(), Exprs: []string{"a + 1", "b", "'x'"}, Names: []string{"n", "a", "b"}}, Inputs: []int{2}, Columns: columns("n a b", api.Int, api.Text, api.Text)}},
	} {
		same(t, c.line, last(t, c.line), c.want)
	}
}

func TestJ2Window(t *testing.T) {
	node := func(keys []int, w api.Windows, cols []api.Column) api.Node {
		return api.Node{Name: "x", Op: api.Op{Kind: api.OpWindow, Columns: abc(), Keys: keys, Windows: w}, Inputs: []int{0}, Columns: cols}
	}
	same(t, "nothing", last(t, "x = s by nothing in whole"), node(nil, api.Windows{Kind: api.Whole}, nil))
	same(t, "tumble", last(t, "x = s by c in tumble 10"), node([]int{2}, api.Windows{Kind: api.Tumble, Size: 10}, columns("c", api.Bool)))
	same(t, "session", last(t, "x = s by c, a in session 3"), node([]int{2, 0}, api.Windows{Kind: api.Session, Size: 3}, columns("c a", api.Bool, api.Int)))
	same(t, "slide", last(t, "x = s by b,a,c in slide 10 every 3"), node([]int{1, 0, 2}, api.Windows{Kind: api.Slide, Size: 10, Step: 3}, columns("b a c", api.Text, api.Int, api.Bool)))
	want := node([]int{1}, api.Windows{Kind: api.Whole}, columns("b n s1 m1 m2 f l d", api.Text, api.Int, api.Int, api.Text, api.Bool, api.Int, api.Text, api.Int))
	want.Op.Aggs = []api.Agg{{Kind: api.Count, At: -1}, {Kind: api.Sum, At: 0}, {Kind: api.Min, At: 1}, {Kind: api.Max, At: 2}, {Kind: api.First, At: 0}, {Kind: api.Last, At: 1}, {Kind: api.Distinct, At: 2}}
	want.Op.Names = strings.Fields("n s1 m1 m2 f l d")
	same(t, "give", last(t, "x = s by b in whole give count() as n, sum(a) as s1, min(b) as m1, max(c) as m2, first(a) as f, last(b) as l, distinct(c) as d"), want)
}

func TestJ2ManyInputs(t *testing.T) {
	union := api.Node{Name: "x", Op: api.Op{Kind: api.OpUnion, Columns: abc()}, Inputs: []int{2, 0, 2, 2}, Columns: abc()}
	same(t, "union", last(t, "x = r union s, r,r"), union)
	join := api.Node{Name: "x", Op: api.Op{Kind: api.OpJoin, Columns: abc(), Right: de(), Keys: []int{1}, Others: []int{0}, Windows: api.Windows{Kind: api.Tumble, Size: 9}}, Inputs: []int{0, 1}, Columns: append(abc(), de()...)}
	same(t, "join", last(t, "x = s join o on b = d in tumble 9"), join)
	join.Op.Outer = true
	same(t, "outer", last(t, "x = s outer join o on b = d in tumble 9"), join)
	join.Op.Outer, join.Op.Keys, join.Op.Others, join.Op.Windows = false, []int{0, 1, 0}, []int{1, 0, 1}, api.Windows{Kind: api.Slide, Size: 4, Step: 2}
	same(t, "pairs", last(t, "x = s join o on a = e and b = d and a = e in slide 4 every 2"), join)
	join = api.Node{Name: "x", Op: api.Op{Kind: api.OpJoin, Columns: de(), Right: abc(), Keys: []int{1}, Others: []int{0}, Windows: api.Windows{Kind: api.Whole}}, Inputs: []int{1, 0}, Columns: append(de(), abc()...)}
	same(t, "the other way round", last(t, "x = o join s on e = a in whole"), join)
}

// TestJ2Chain: inputs are nodes of any kind but sinks, by their places.
func TestJ2Chain(t *testing.T) {
	nodes := reads(t, head+"w = s where c\nsink y = w\nm = w select b as z\nx = m join o on z = d in whole\nu = m union m\nk = x by d in whole give max(e) as e2\nsink v = k\nsink t = u")
	inputs := [][]int{nil, nil, nil, {0}, {3}, {3}, {5, 1}, {5, 5}, {6}, {8}, {7}}
	for i, n := range nodes {
		same(t, n.Name, n.Inputs, inputs[i])
	}
	same(t, "k", nodes[8].Columns, columns("d e2", api.Text, api.Int))
	same(t, "k's input", nodes[8].Op.Columns, columns("z d e", api.Text, api.Text, api.Int))
	same(t, "t", nodes[10].Columns, columns("z", api.Text))
}

// TestJ2FreshMemory: no two lists of an answer share memory, nor do answers.
func TestJ2FreshMemory(t *testing.T) {
	text := head + "w = s where c\nm = s select a as a, b as b, c as c\nk = s by a, b in whole give count() as n, sum(a) as z\nu = s union r, w, m\nx = s outer join o on b = d and a = e in whole\nsink y = x\nsink z = u"
	one, other := reads(t, text), reads(t, text)
	apart(t, "Parse", one, other)
	for i := range one {
		for j := range one[i].Columns {
			one[i].Columns[j].Name = "other"
		}
		for j := range one[i].Op.Columns {
			one[i].Op.Columns[j].Kind = 9
		}
	}
	same(t, "once more", reads(t, text), other)
	j := api.Job{Nodes: other}
	apart(t, "Weight", j, job.Weight(j), job.Weight(j))
}

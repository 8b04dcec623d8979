package job_test

import (
	"fmt"
	"strings"
	"testing"

	"streamwright/api"
)

const long = "thirteenlette"

func TestJ3TooLong(t *testing.T) {
	fill := func(text string, size int) string { return text + strings.Repeat("#", size-len(text)) }
	reads(t, fill(head, api.MaxJob))
	tells(t, fill(head, api.MaxJob+1), api.ErrFull, 0)
	tells(t, fill("$\n", api.MaxJob), api.ErrSyntax, 1)
	tells(t, fill("$\n", api.MaxJob+1), api.ErrFull, 0)
	tells(t, strings.Repeat("\n", api.MaxJob+1), api.ErrFull, 0)
	tells(t, strings.Repeat(head, 100000), api.ErrFull, 0)
}

// TestJ3FirstLine: a line's last fault is told ahead of the next one's first.
func TestJ3FirstLine(t *testing.T) {
	tells(t, "$\n$", api.ErrSyntax, 1)
	tells(t, "\n\n  # first\n$\nx = s where c", api.ErrSyntax, 4)
	tells(t, head+"\n\nx = q where c\n$\n", api.ErrName, 6)
	tells(t, head+"x = s where a\n$", api.ErrType, 4)
	tells(t, head+"x = s by a in tumble 0\nsink s = s", api.ErrRange, 4)
	tells(t, head+"sink x = s\nsink x = s\n$", api.ErrName, 5)
}

// TestJ3Tokens: a fault of the tokens is told ahead of all others of a line.
func TestJ3Tokens(t *testing.T) {
	for _, no := range []string{"$", "'a", "'", "\x00", "\xff", "\r", "!", "a.b", ";", "&", "\"a\"", "[", "\\"} {
		behindHead(t, api.ErrSyntax, no, "x = s where c "+no, long+" = s where c "+no, "x = q where c "+no, "x = s where q "+no, "x = s where a "+no, "sink s = s "+no, "stream s (a int, a int) late 9999999 "+no, "x = s union o "+no, "x = s by a in tumble 0 "+no, "x = s where "+strings.Repeat("c or ", 50)+no)
	}
}

// TestJ3CannotStand: a token of a line that is read, left out, or put in twice.
func TestJ3CannotStand(t *testing.T) {
	for _, line := range []string{
		"stream q ( a int , b text ) late 5", "sink x = s", "x = s where c", "x = s select a as y , b as z",
		"x = s by a , b in slide 10 every 4 give sum ( a ) as y , count ( ) as z", "x = s by nothing in whole",
		"x = s union r , s", "x = s outer join o on a = e and b = d in tumble 10",
	} {
		behindHead(t, api.OK, line)
		tokens := strings.Fields(line)
		for i := range tokens {
			but := strings.Join(append(append([]string{}, tokens[:i]...), tokens[i+1:]...), " ")
			if but != "x = s join o on a = e and b = d in tumble 10" && but != "x = s where" {
				behindHead(t, api.ErrSyntax, but)
			}
			twice := strings.Join(append(append([]string{}, tokens[:i+1]...), tokens[i:]...), " ")
			behindHead(t, api.ErrSyntax, twice)
		}
	}
	behindHead(t, api.ErrSyntax,
		"x", "x =", "x = s", "= s where c", "x s where c", "x == s where c", "x = s was c", "x = s outer", "x = s outer union r", "x = s join", "x = s sink", "x = s as y",
		"stream", "stream q", "stream q a int", "stream q ()", "stream q (a)", "stream q (a int", "stream q (a int,)", "stream q (int)", "stream q (a null)", "stream q (a Int)", "stream q (a int b int)", "stream q (a, b int)", "stream q (a int) 5", "stream q (a int) late", "stream q (a int) late 5 5", "stream q (a int) late 5 late 5", "stream = s where c",
		"sink", "sink x", "sink x s", "sink x =", "sink x = s where c", "sink x = s, r", "sink sink = s",
		"x = s by", "x = s by in whole", "x = s by a", "x = s by a b in whole", "x = s by a, in whole", "x = s by nothing", "x = s by nothing, a in whole", "x = s by a, nothing in whole", "x = s by (a) in whole",
		"x = s by a in", "x = s by a in all", "x = s by a in whole 5", "x = s by a in tumble 5 every 5", "x = s by a in slide 5", "x = s by a in slide 5 every", "x = s by a in session 5 every 5", "x = s by a in session", "x = s by a whole", "x = s by a in in whole",
		"x = s by a in whole give", "x = s by a in whole give a as y", "x = s by a in whole give count as y", "x = s by a in whole give count() y", "x = s by a in whole give count()", "x = s by a in whole give count(a) as y", "x = s by a in whole give sum() as y", "x = s by a in whole give sum(a, a) as y", "x = s by a in whole give sum(1) as y", "x = s by a in whole give sum(a + 1) as y", "x = s by a in whole give avg(a) as y", "x = s by a in whole give len(b) as y", "x = s by a in whole give Sum(a) as y", "x = s by a in whole give count() as y,", "x = s by a in whole give give count() as y", "x = s by a in whole give sum(a as y",
		"x = s union", "x = s union s,", "x = s union , s", "x = s union s r", "x = s union (s)", "x = s union s in whole",
		"x = s join o", "x = s join o in whole", "x = s join o on", "x = s join o on in whole", "x = s join o on b in whole", "x = s join o on b = in whole", "x = s join o on b = d", "x = s join o on b = d and in whole", "x = s join o on b = d, a = e in whole", "x = s join o on b = d or a = e in whole", "x = s join o on b < d in whole", "x = s join o on b = d in whole give count() as y", "x = s join o, r on b = d in whole", "x = s join outer o on b = d in whole",
	)
}

// TestJ3LongNames: longer than a name may be.
func TestJ3LongNames(t *testing.T) {
	for _, line := range []string{
		"stream NAME (a int)", "stream q (NAME int)", "sink NAME = s", "sink x = NAME", "NAME = s where c", "x = NAME where c", "x = s where NAME", "x = s where NAME(a)",
		"x = s select a as NAME", "x = s select NAME as y", "x = s by NAME in whole", "x = s by a in whole give sum(NAME) as y", "x = s by a in whole give sum(a) as NAME",
		"x = s union NAME", "x = s union s, NAME", "x = s join NAME on b = d in whole", "x = s join o on NAME = d in whole", "x = s join o on b = NAME in whole",
	} {
		for _, name := range []string{long, strings.Repeat("x", 100), "stream_______", "_____________"} {
			behindHead(t, api.ErrRange, strings.ReplaceAll(line, "NAME", name))
		}
		// Behind the line something that cannot stand, as an expression may have these.
		behindHead(t, api.ErrSyntax, strings.ReplaceAll(line, "NAME", "1234567890123")+" x", strings.ReplaceAll(line, "NAME", "'12345678901'")+" x")
	}
	// Where no name is to stand, a long word is just one that cannot.
	behindHead(t, api.ErrSyntax, "stream q (a "+long+")", "x = s "+long, "x "+long, "x = s by a in "+long, "x = s by a in whole give "+long+"(a) as y", "x = s by a in tumble "+long)
}

func TestJ3Inputs(t *testing.T) {
	for _, line := range []string{"sink x = NAME", "x = NAME where c", "x = NAME select a as y", "x = NAME by a in whole", "x = NAME union s", "x = s union NAME", "x = s union r, NAME", "x = NAME join o on b = d in whole", "x = s join NAME on b = d in whole", "x = s outer join NAME on b = d in whole"} {
		for _, name := range []string{"q", "S", "x", "a", "sum", "later"} { // none is a node ahead
			behindHead(t, api.ErrName, strings.ReplaceAll(line, "NAME", name)+"\nlater = s where c")
		}
		tells(t, head+"sink y = s\n"+strings.ReplaceAll(line, "NAME", "y"), api.ErrName, 5)
	}
}

func TestJ3Columns(t *testing.T) {
	for _, name := range []string{"q", "A", "s", "d", "count"} { // of o, or none
		behindHead(t, api.ErrName, "x = s by "+name+" in whole", "x = s by a, "+name+" in whole", "x = s by a in whole give sum("+name+") as y", "x = s by a in whole give count() as y, last("+name+") as z", "x = s join o on "+name+" = d in whole", "x = s join o on b = d and "+name+" = d in whole")
	}
	for _, name := range []string{"q", "D", "o", "b", "sum"} { // of s, or none
		behindHead(t, api.ErrName, "x = s join o on b = "+name+" in whole", "x = s join o on a = e and b = "+name+" in whole")
	}
	tells(t, head+"x = s select a as z\ny = x by a in whole", api.ErrName, 5)
	tells(t, head+"x = s by b in whole give sum(a) as z\ny = x by c in whole", api.ErrName, 5)
}

// TestJ3AsItIsRead: of two faults in a line the one that is read first.
func TestJ3AsItIsRead(t *testing.T) {
	behindHead(t, api.ErrRange, long+" by", long, "stream "+long+" 5", "stream q ("+long+" null)", "sink "+long+" = q", "x = "+long+" q", "x = s by "+long+", q in whole", "x = s select a as "+long+" b", "x = s where "+long+" as", "x = s where "+long+", q", "x = s by a in whole give sum("+long+" q", "x = s by a in whole give sum(b) as "+long, "x = s join o on "+long+" = q", "x = s union s, "+long+", q", "x = s select 1 as "+long+", q as in")
	behindHead(t, api.ErrName, "x = q", "x = q by", "x = q where "+long, "sink x = q x", "x = q "+long, "x = s by q, where in whole", "x = s by q in tumble x", "x = s by a, q in whole whole", "x = s by a in tumble 0 give sum(q) as y", "x = s by a in whole give sum(q)", "x = s by a in whole give sum(q as y", "x = s union q, where", "x = s union q q", "x = s join q", "x = s join o on q", "x = s join o on q = q", "x = s join o on b = q in", "x = s join o on d = "+long+" in whole", "x = s join q on "+long)
	behindHead(t, api.ErrSyntax, "x q", "x by "+long, "stream q (by int, "+long+" int)", "x = s by a in tumble x give sum(q) as y", "x = s by where, q in whole", "x = s join o on where = q in whole", "x = s select a as in, q as "+long, "x = s by a in whole give sum(a) as by, sum(q) as z", "x = s where a a "+long)
}

func TestJ3Exprs(t *testing.T) {
	behindHead(t, api.ErrRange, "x = s where "+strings.Repeat("not ", 13)+"c", "x = s where "+strings.Repeat("(", 13)+"c", "x = s select "+strings.Repeat("-", 13)+"a as y")
	behindHead(t, api.OK, "x = s where "+strings.Repeat("not ", 12)+"c", "x = s where "+strings.Repeat("(", 12)+"c"+strings.Repeat(")", 12))
	behindHead(t, api.ErrSyntax, "x = s where b = '\\41'", "x = s where a = 01", "x = s where a > 9223372036854775808", "x = s where a < 1 < 2", "x = s where a = not c", "x = s where c and", "x = s where f(", "x = s select a + as y", "x = s where true(1)")
	// Kinds and names within an expression are looked at when the line was read.
	behindHead(t, api.ErrSyntax, "x = s where q q", "x = s where a + b +", "x = s select q as y, a as where", "x = s select a + b as y,", "x = s where q, c", "x = s where a as y")
	behindHead(t, api.ErrRange, "x = s select a + b as y, b as "+long, "x = s select q as y, "+long+" as z")
	behindHead(t, api.ErrName, "x = s where q", "x = s where q = 1", "x = s where f(c)", "x = s where late > 1", "x = s where stream(c)", "x = s select q as y, a + b as z", "x = s select d as y")
	behindHead(t, api.ErrType, "x = s where a", "x = s where b", "x = s where a + 1", "x = s where a = b", "x = s where not a", "x = s where len(a) = 1", "x = s select a + b as y, q as z", "x = s select a + b as y, a as y")
}

// TestJ3LongExprs: more than 200 bytes, as it stands there or as it is printed.
func TestJ3LongExprs(t *testing.T) {
	sum := func(n int, plus string) string { return strings.TrimSuffix(strings.Repeat("1"+plus, n), plus) } // 1 + .. + 1
	for _, c := range []struct {
		text string
		why  api.Errno
	}{
		{sum(50, " + ") + "00", api.OK}, {sum(50, " + ") + "000", api.OK}, {sum(50, " + ") + "0000", api.ErrFull}, // 199, 200, 201
		{sum(50, "+") + "000", api.OK}, {sum(50, "+") + "0000", api.ErrFull}, {sum(51, "+"), api.ErrFull}, {sum(100, "+"), api.ErrFull}, {sum(101, "+"), api.ErrFull},
		{"1 " + strings.Repeat(" ", 196) + "+1", api.OK}, {"1 " + strings.Repeat(" ", 197) + "+1", api.ErrFull}, {"(1 " + strings.Repeat("\t", 198) + ")", api.ErrFull},
		{"1 " + strings.Repeat(" ", 197) + "1", api.ErrSyntax}, {"1 " + strings.Repeat(" ", 198) + "1", api.ErrFull}, // its length is told ahead of all
		{long + strings.Repeat(" ", 300) + "+ 1", api.ErrFull}, {sum(100, "+") + "+", api.ErrSyntax},
	} {
		behindHead(t, c.why, "x = s select "+c.text+" as y", "x = s select 1 as z, "+c.text+" as y", "x = s select    "+c.text+"  \t\t  as y")
		if c.why != api.OK {
			behindHead(t, c.why, "x = s select "+c.text+" as in", "s = s select "+c.text+" as y", "x = s select "+c.text, "x = s where "+c.text, "x = s where "+c.text+", q")
			behindHead(t, api.ErrName, "x = q select "+c.text+" as y", "x = q where "+c.text)
		}
	}
	same(t, "as it is printed", last(t, "x = s select "+sum(50, "+")+"000 as y").Op.Exprs, []string{sum(50, " + ") + "000"})
}

func TestJ3Union(t *testing.T) {
	behindHead(t, api.OK, "x = s union s", "x = s union r", "x = r union s, r, s")
	behindHead(t, api.ErrType, "x = s union o", "x = o union s", "x = s union r, o", "x = s union o, r", "x = s union o, s, o")
	for _, cols := range []string{"a int", "a int, b text", "a int, b text, c bool, d int", "a int, c bool, b text", "a int, b text, c int", "a int, b text, C bool"} {
		tells(t, head+"stream q ("+cols+")\nx = s union q", api.ErrType, 5)
		tells(t, head+"stream q ("+cols+")\nx = q union s", api.ErrType, 5)
		reads(t, head+"stream q ("+cols+")\nx = q union q")
	}
	// Behind the last token that names one, ahead of all else.
	behindHead(t, api.ErrName, "x = s union o, q", "x = s union q, o", "x = s union o, r, q x")
	behindHead(t, api.ErrRange, "x = s union o, "+long)
	behindHead(t, api.ErrSyntax, "x = s union o, where", "x = s union o,", "x = s union r where")
	behindHead(t, api.ErrType, "x = s union o where", "x = s union o o", "x = s union o q", "x = s union o "+long, "x = s union o, r )", "s = s union o")
}

func TestJ3NameTwice(t *testing.T) {
	behindHead(t, api.ErrName, "stream s (z int)", "sink s = s", "s = s where c", "o = s select a as y", "s = s by a in whole", "r = s union r", "s = s join o on b = d in whole",
		// ahead of what is wrong with what comes out
		"s = s where a", "s = s where a = b", "s = s by a in tumble 0", "s = s by a in whole give sum(b) as y", "s = s join o on a = d in whole", "stream s (a int, b int, c int, d int, e int, f int, g int, h int, i int)", "stream s (z int) late 1048577")
	// behind what cannot stand
	behindHead(t, api.ErrSyntax, "stream s (z int) z", "sink s = s s", "s = s where", "s = s by a in whole give")
	behindHead(t, api.ErrRange, "s = s by "+long+" in whole")
	tells(t, head+"sink x = s\nx = s where c", api.ErrName, 5)
	tells(t, head+"x = s where c\n\nstream x (a int)", api.ErrName, 6)
}

func TestJ3Streams(t *testing.T) {
	nine := "a int, b int, c int, d int, e int, f int, g int, h int, "
	behindHead(t, api.ErrFull, "stream q ("+nine+"i int)", "stream q ("+nine+"a int)", "stream q ("+nine+nine+"i int)", "stream q ("+nine+"i int) late 1048577", "stream q (a int, a int, a int, a int, a int, a int, a int, a int, a int)")
	behindHead(t, api.ErrName, "stream q (a int, a int)", "stream q (a int, b int, a text)", "stream q (a int, a int) late 1048577")
	behindHead(t, api.ErrRange, "stream q (a int) late 1048577", "stream q (a int) late 9223372036854775807")
	behindHead(t, api.OK, "stream q (a int, A int) late 1048576", "stream q (q int)")
}

func TestJ3Out(t *testing.T) {
	behindHead(t, api.ErrRange, "x = s by a in tumble 0", "x = s by a in tumble 1048577", "x = s by a in session 0", "x = s by a in session 1048577", "x = s by a in slide 0 every 0", "x = s by a in slide 5 every 0", "x = s by a in slide 5 every 6", "x = s by a in slide 65 every 1", "x = s by a in tumble 0 give sum(b) as y", "x = s join o on a = d in tumble 0", "x = s by a,a,a,a,a,a,a,a,a in whole")
	behindHead(t, api.OK, "x = s by a in tumble 1048576", "x = s by a in slide 64 every 1", "x = s by a in slide 129 every 2", "x = s by a in session 1048576")
	behindHead(t, api.ErrType, "x = s by a in whole give sum(b) as y", "x = s by a in whole give count() as y, sum(c) as y", "x = s join o on a = d in whole", "x = s join o on b = d and b = e in whole", "x = s join s on a = b in whole")
	behindHead(t, api.ErrFull, "x = s by a, b, c in whole give count() as a1, count() as a2, count() as a3, count() as a4, count() as a5, count() as a6", "x = s select 1 as a1, 1 as a2, 1 as a3, 1 as a4, 1 as a5, 1 as a6, 1 as a7, 1 as a8, 1 as a1")
	behindHead(t, api.ErrName, "x = s by a, a in whole", "x = s by a in whole give count() as a", "x = s by a in whole give count() as y, count() as y", "x = s select a as y, b as y", "x = s join s on a = a in whole", "x = s join r on a = a in whole")
	tells(t, "stream s (a int, b int, c int, d int, e int)\nstream o (f int, g int, h int, i int)\nx = s join o on a = f in whole", api.ErrFull, 3)
	tells(t, "stream s (a int, b int, c int, d int, e int)\nx = s join s on a = b in whole", api.ErrFull, 2)
}

func TestJ3Nodes(t *testing.T) {
	text := head
	for k := range api.MaxNodes - headLines {
		text += fmt.Sprintf("n%d = s where c\n\n", k)
	}
	if nodes := reads(t, text+"\n# no more\n\n"); len(nodes) != api.MaxNodes {
		t.Error(len(nodes))
	}
	line := strings.Count(text, "\n") + 1
	for _, more := range []string{"x = s where c", "sink x = s", "stream q (a int)", "x = s by a in whole", "x = s where c\n$"} {
		tells(t, text+more, api.ErrFull, line)
	}
	// All else that is wrong with it is told ahead.
	tells(t, text+"$", api.ErrSyntax, line)
	tells(t, text+"x = s where", api.ErrSyntax, line)
	tells(t, text+"x = s where q", api.ErrName, line)
	tells(t, text+"x = s where a", api.ErrType, line)
	tells(t, text+"n0 = s where c", api.ErrName, line)
	tells(t, text+"stream q (a int) late 1048577", api.ErrRange, line)
}

func TestJ3Weights(t *testing.T) {
	two := "t = s union r\n"
	for _, c := range []struct {
		lines string
		why   api.Errno
	}{
		{two + "x = t join o on b = d in whole", api.OK}, // 20,000
		{two + "x = t join o on b = d in slide 5 every 5", api.OK}, {two + "x = t join o on b = d in slide 5 every 4", api.ErrFull}, {two + "x = t join o on b = d in slide 5 every 5\nsink y = x", api.OK},
		{"t = s union r, s\nx = t join o on b = d in whole", api.ErrFull},
		{"x = s join o on b = d in slide 9 every 5", api.OK}, {"x = s join o on b = d in slide 10 every 5", api.OK}, {"x = s join o on b = d in slide 11 every 5", api.ErrFull},
		{"t = s by b in slide 64 every 1\nx = t join o on b = d in whole", api.ErrFull}, {"t = s by b in slide 64 every 32\nx = t join o on b = d in whole", api.OK},
		{"t = s union s" + strings.Repeat(",s", 198) + "\n", api.OK}, {"\nx = s union s" + strings.Repeat(",s", 199), api.ErrFull},
		{two + "x = t join o on b = d in whole\ny = x union x", api.ErrFull},
	} {
		if c.why == api.OK {
			reads(t, head+c.lines)
		} else {
			tells(t, head+c.lines, c.why, headLines+1+strings.Count(c.lines, "\n"))
		}
	}
	tells(t, head+two+"x = t join o on b = d in slide 5 every 4 y", api.ErrSyntax, 5)
	tells(t, head+two+"t = t join o on b = d in slide 5 every 4", api.ErrName, 5)
	tells(t, head+two+"x = t join o on a = d in slide 5 every 4", api.ErrType, 5)
}

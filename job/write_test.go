package job_test

import (
	"testing"
)

func TestJ5Print(t *testing.T) {
	for _, c := range [][2]string{
		{"", ""}, {"\n\n# nothing\n \t\n", ""},
		{"stream s(a int)", "stream s (a int)\n"}, {"stream  s ( a  int , b text,c bool )  late  5  # x\n\n", "stream s (a int, b text, c bool) late 5\n"}, {"stream s (a int) late 0", "stream s (a int)\n"}, {"stream s (a int) late 1048576", "stream s (a int) late 1048576\n"},
	} {
		prints(t, c[0], c[1])
	}
	headPrinted := "stream s (a int, b text, c bool)\nstream o (d text, e int)\nstream r (a int, b text, c bool)\n"
	for _, c := range [][2]string{
		{"sink  x=s", "sink x = s"},
		{"x=s where(c)", "x = s where c"}, {"x = s where a>1 and(c or b=' as,')", "x = s where a > 1 and (c or b = ' as,')"}, {"x = s where not(not c)", "x = s where not not c"},
		{"x=s select(a)as y", "x = s select a as y"}, {"x = s select if ( c,1 , 2 ) as y ,b++'x' as z,- a as w", "x = s select if(c, 1, 2) as y, b ++ 'x' as z, -a as w"},
		{"x=s by nothing in whole", "x = s by nothing in whole"}, {"x = s by a ,b,  c in tumble  10", "x = s by a, b, c in tumble 10"}, {"x = s by c in session 1048576", "x = s by c in session 1048576"}, {"x = s by a in slide 10 every 4 give count ( ) as n", "x = s by a in slide 10 every 4 give count() as n"},
		{"x = s by nothing in whole give sum ( a )as s1 ,min(b) as m1,max( c) as m2, first(a ) as f,last(b) as l, distinct(c)as d , count()as n", "x = s by nothing in whole give sum(a) as s1, min(b) as m1, max(c) as m2, first(a) as f, last(b) as l, distinct(c) as d, count() as n"},
		{"x=s union r", "x = s union r"}, {"x = s union r,s ,r", "x = s union r, s, r"},
		{"x=s join o on b=d in whole", "x = s join o on b = d in whole"}, {"x=s  outer  join  o  on  b=d  and  a=e  in  slide  5  every  3", "x = s outer join o on b = d and a = e in slide 5 every 3"}, {"x = o join s on e=a in session 7", "x = o join s on e = a in session 7"},
	} {
		prints(t, head+c[0], headPrinted+c[1]+"\n")
		prints(t, "\n# first\n"+head+"\n\n\t"+c[0]+"\t# last", headPrinted+c[1]+"\n")
		prints(t, head+c[1]+"\n", headPrinted+c[1]+"\n")
	}
}

// TestJ5LongerThanItMayBe: what is printed may be more than Parse reads.
func TestJ5LongerThanItMayBe(t *testing.T) {
	const ones, printed = "1+1+1+1+1+1+1+1+1+1+1+1+1+1+1+1+1+1+1+1+1+1+1+1+1+1+1+1+1+1+1+1+1+1+1", "1 + 1 + 1 + 1 + 1 + 1 + 1 + 1 + 1 + 1 + 1 + 1 + 1 + 1 + 1 + 1 + 1 + 1 + 1 + 1 + 1 + 1 + 1 + 1 + 1 + 1 + 1 + 1 + 1 + 1 + 1 + 1 + 1 + 1 + 1"
	text, want := "stream s(z int)\n", "stream s (z int)\n"
	for _, name := range []string{"a", "b", "c"} {
		text, want = text+name+"=s select ", want+name+" = s select "
		for _, col := range []string{"p", "q", "r", "t", "u", "v", "w"} {
			text, want = text+ones+" as "+col+",", want+printed+" as "+col+", "
		}
		text, want = text+"1 as x\n", want+"1 as x\n"
	}
	if len(text) > 3000 || len(want) <= 3000 {
		t.Fatal(len(text), len(want))
	}
	prints(t, text, want)
}

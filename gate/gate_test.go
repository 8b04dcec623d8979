package gate_test

import (
	"fmt"
	"math"
	"math/rand"
	"reflect"
	"slices"
	"strings"
	"testing"

	"streamwright/api"
	"streamwright/gate"
	"streamwright/plain"
	"streamwright/value"
)

func row(time int64, l ...api.Value) api.Elem {
	return api.Elem{Kind: api.ElemRow, Row: api.Row{Time: time, Values: l}}
}

func time(t int64) api.Elem { return api.Elem{Kind: api.ElemTime, Time: t} }

func mark(n int) api.Elem { return api.Elem{Kind: api.ElemMark, Mark: n} }

// shown writes elements: of each what its Kind has.
func shown(l []api.Elem) string {
	var b strings.Builder
	for _, e := range l {
		switch e.Kind {
		case api.ElemRow:
			fmt.Fprintf(&b, "row %d%v ", e.Row.Time, e.Row.Values)
		case api.ElemTime:
			fmt.Fprintf(&b, "time %d ", e.Time)
		case api.ElemMark:
			fmt.Fprintf(&b, "mark %d ", e.Mark)
		default:
			fmt.Fprintf(&b, "kind %d ", e.Kind)
		}
	}
	return strings.TrimSuffix(b.String(), " ")
}

// some makes a gate that there must be.
func some(t *testing.T, channels int) *gate.Gate {
	t.Helper()
	g, err := gate.New(channels)
	if err != nil || g == nil {
		t.Fatalf("New(%d): %v", channels, err)
	}
	return g
}

// takes lets an element in, and checks what goes on.
func takes(t *testing.T, g *gate.Gate, channel int, e api.Elem, want string) {
	t.Helper()
	if l, err := g.Take(channel, e); err != nil || shown(l) != want {
		t.Errorf("Take(%d, %s): %q, %v, want %q", channel, shown([]api.Elem{e}), shown(l), err, want)
	}
}

// refuses checks which error an element leads to, and that Open and Time tell
// what they told.
func refuses(t *testing.T, g *gate.Gate, channel int, e api.Elem, want api.Errno) {
	t.Helper()
	before := looks(g)
	if l, err := g.Take(channel, e); plain.Told(err) != want || l != nil {
		t.Errorf("Take(%d, %s): %q, %v, want %v", channel, shown([]api.Elem{e}), shown(l), err, want)
	}
	if after := looks(g); after != before {
		t.Errorf("Take(%d, %s): %s, and it was %s", channel, shown([]api.Elem{e}), after, before)
	}
}

// looks tells what can be seen.
func looks(g *gate.Gate) string {
	s := fmt.Sprint(g.Time(), " ")
	for channel := -1; channel < 66; channel++ {
		if g.Open(channel) {
			s += fmt.Sprint(channel, " ")
		}
	}
	return s
}

func TestG1New(t *testing.T) {
	for _, n := range []int{0, -1, 65, 66, 1 << 20, math.MaxInt, math.MinInt} {
		if g, err := gate.New(n); plain.Told(err) != api.ErrRange || g != nil {
			t.Errorf("New(%d): %v", n, err)
		}
	}
	for n := 1; n <= 64; n++ {
		g := some(t, n)
		if g.Time() != api.Never {
			t.Errorf("the time is %d at first", g.Time())
		}
		for _, channel := range []int{-1, 0, 1, n - 1, n, n + 1, 63, 64, math.MaxInt, math.MinInt} {
			if want := channel >= 0 && channel < n; g.Open(channel) != want {
				t.Errorf("%d channels, Open(%d): %v", n, channel, !want)
			}
		}
	}
}

func TestG1Open(t *testing.T) {
	g := some(t, 3)
	takes(t, g, 1, mark(7), "")
	if g.Open(1) || !g.Open(0) || !g.Open(2) {
		t.Error("the channel with a mark waits, and no other one")
	}
	takes(t, g, 0, mark(7), "")
	if g.Open(0) || g.Open(1) || !g.Open(2) {
		t.Error("the channels with a mark wait, and no other one")
	}
	takes(t, g, 2, mark(7), "mark 7")
	if !g.Open(0) || !g.Open(1) || !g.Open(2) {
		t.Error("a channel waits, though all have come")
	}
}

func TestG2NotOpen(t *testing.T) {
	g := some(t, 2)
	takes(t, g, 0, mark(3), "")
	for _, channel := range []int{-1, 2, 64, math.MaxInt, math.MinInt, 0} {
		for _, e := range []api.Elem{row(1), time(1), time(-5), mark(3), mark(0), mark(4), {}, {Kind: 4}} {
			refuses(t, g, channel, e, api.ErrState)
		}
	}
	takes(t, g, 1, time(5), "")
	takes(t, g, 1, mark(3), "mark 3")
	takes(t, g, 0, time(1), "time 1")
}

func TestG2Row(t *testing.T) {
	g := some(t, 2)
	words := []api.Value{value.Words("a"), value.Of(4), {}}
	for channel := range 2 {
		takes(t, g, channel, row(9), "row 9[]")
		takes(t, g, channel, row(3, words...), fmt.Sprint("row 3", words))
		takes(t, g, channel, time(8), []string{"", "time 8"}[channel])
		takes(t, g, channel, row(0), "row 0[]") // a row that comes too late is no matter of the gate
	}
	takes(t, g, 0, mark(1), "")
	takes(t, g, 1, row(4, value.Of(1)), fmt.Sprint("row 4", []api.Value{value.Of(1)}))
	if g.Time() != 8 {
		t.Error("a row changes the time")
	}
}

func TestG2Time(t *testing.T) {
	g := some(t, 3)
	takes(t, g, 0, time(5), "")
	takes(t, g, 1, time(0), "")
	takes(t, g, 2, time(3), "time 0")
	takes(t, g, 2, time(9), "")
	takes(t, g, 1, time(6), "time 5")
	if g.Time() != 5 {
		t.Errorf("Time: %d", g.Time())
	}
	takes(t, g, 1, time(7), "")
	takes(t, g, 0, time(6), "time 6")
	takes(t, g, 0, time(api.MaxTime), "time 7")
	takes(t, g, 1, time(api.Forever), "time 9")
	takes(t, g, 2, time(api.Forever), "time 1099511627776")
	takes(t, g, 0, time(api.Forever), "time 1099511627777")
	if g.Time() != api.Forever {
		t.Errorf("Time: %d", g.Time())
	}
	for channel := range 3 {
		refuses(t, g, channel, time(api.Forever), api.ErrRange)
	}
}

func TestG2WrongTimes(t *testing.T) {
	g := some(t, 2)
	for _, wrong := range []int64{-1, -2, math.MinInt64, api.Forever + 1, math.MaxInt64} {
		refuses(t, g, 0, time(wrong), api.ErrRange)
	}
	takes(t, g, 0, time(4), "")
	for _, wrong := range []int64{4, 3, 0, -1, math.MinInt64, api.Forever + 1, math.MaxInt64} {
		refuses(t, g, 0, time(wrong), api.ErrRange)
	}
	takes(t, g, 1, time(9), "time 4") // what was refused is not the channel's
	takes(t, g, 0, time(5), "time 5")
	refuses(t, g, 1, time(9), api.ErrRange)
	refuses(t, g, 0, time(5), api.ErrRange)
}

func TestG2OneChannel(t *testing.T) {
	g := some(t, 1)
	takes(t, g, 0, time(0), "time 0")
	takes(t, g, 0, mark(1), "mark 1")
	takes(t, g, 0, mark(1), "mark 1")
	takes(t, g, 0, mark(math.MaxInt), "mark 9223372036854775807")
	refuses(t, g, 0, mark(0), api.ErrState)
	takes(t, g, 0, time(api.Forever), "time 1099511627777")
}

// TestG2LastOfMany: nothing goes on until the last of 64 channels has come.
func TestG2LastOfMany(t *testing.T) {
	for last := range 64 {
		g := some(t, 64)
		for channel := range 64 {
			if channel != last {
				takes(t, g, channel, time(10+int64(channel)), "")
				takes(t, g, channel, mark(2), "")
			}
		}
		takes(t, g, last, time(3), "time 3")
		takes(t, g, last, time(100), fmt.Sprint("time ", []int64{10, 11}[boolInt(last == 0)]))
		takes(t, g, last, mark(2), "mark 2")
	}
}

func boolInt(b bool) int {
	if b {
		return 1
	}
	return 0
}

func TestG2Mark(t *testing.T) {
	g := some(t, 3)
	for _, wrong := range []int{0, -1, math.MinInt} {
		refuses(t, g, 0, mark(wrong), api.ErrState)
	}
	takes(t, g, 2, mark(5), "")
	for _, wrong := range []int{4, 6, 1, 0, -5, math.MaxInt, math.MinInt} {
		refuses(t, g, 0, mark(wrong), api.ErrState)
	}
	takes(t, g, 0, row(1), "row 1[]") // those that do not wait go on
	takes(t, g, 0, time(8), "")
	takes(t, g, 0, mark(5), "")
	refuses(t, g, 1, mark(4), api.ErrState)
	takes(t, g, 1, mark(5), "mark 5")
	// A mark that went on binds nobody.
	takes(t, g, 1, mark(1), "")
	takes(t, g, 0, time(9), "")
	takes(t, g, 0, mark(1), "")
	takes(t, g, 2, mark(1), "mark 1")
}

// TestG2MarksLeaveTimes: neither what a channel told nor what went on is lost
// by a mark.
func TestG2MarksLeaveTimes(t *testing.T) {
	g := some(t, 2)
	takes(t, g, 0, time(5), "")
	takes(t, g, 1, time(3), "time 3")
	takes(t, g, 0, mark(1), "")
	takes(t, g, 1, mark(1), "mark 1")
	if g.Time() != 3 {
		t.Errorf("Time: %d", g.Time())
	}
	refuses(t, g, 0, time(5), api.ErrRange)
	takes(t, g, 1, time(4), "time 4")
	takes(t, g, 1, time(6), "time 5")
}

func TestG2OtherKinds(t *testing.T) {
	g := some(t, 2)
	for _, kind := range []int{0, -1, 4, 5, math.MaxInt, math.MinInt} {
		refuses(t, g, 0, api.Elem{Kind: kind, Time: 4, Mark: 2}, api.ErrRange)
	}
	takes(t, g, 0, time(1), "")
	takes(t, g, 1, time(1), "time 1")
}

// TestG2OneOfItsKind: what goes on has what its kind names, and nothing else
// that came in with it.
func TestG2OneOfItsKind(t *testing.T) {
	for _, r := range []api.Row{{}, {Time: 4, Values: []api.Value{value.Of(1), {}}}} {
		for _, other := range []struct {
			time int64
			mark int
		}{{4, 2}, {math.MinInt64, -1}, {math.MaxInt64, math.MaxInt}} {
			goesOnAs(t, api.Elem{Kind: api.ElemRow, Row: r, Time: other.time, Mark: other.mark}, api.Elem{Kind: api.ElemRow, Row: r})
			goesOnAs(t, api.Elem{Kind: api.ElemTime, Row: r, Time: 7, Mark: other.mark}, api.Elem{Kind: api.ElemTime, Time: 7})
			goesOnAs(t, api.Elem{Kind: api.ElemMark, Row: r, Time: other.time, Mark: 3}, api.Elem{Kind: api.ElemMark, Mark: 3})
		}
	}
}

// goesOnAs checks all of what goes on of the first element of a gate.
func goesOnAs(t *testing.T, e, want api.Elem) {
	t.Helper()
	l, err := some(t, 1).Take(0, e)
	if err != nil || !reflect.DeepEqual(l, []api.Elem{want}) {
		t.Errorf("Take(0, %+v): %+v, %v, want %+v", e, l, err, want)
	}
}

func TestP2RowsAreCopied(t *testing.T) {
	g := some(t, 1)
	in := []api.Value{value.Of(1), value.Of(2), value.Of(3)}
	l, err := g.Take(0, row(3, in[:2]...))
	if err != nil {
		t.Fatal(err)
	}
	l[0].Row.Values[0] = value.Of(9)
	_ = append(l[0].Row.Values, value.Of(8))
	if !slices.Equal(in, []api.Value{value.Of(1), value.Of(2), value.Of(3)}) {
		t.Errorf("what was handed in is written into: %v", in)
	}
	in[1] = value.Of(7)
	if l[0].Row.Values[1] != value.Of(2) {
		t.Error("what goes on hangs on what was handed in")
	}
}

// reading is G2, read a second time: it has all that was let in, and works out
// what goes on from the beginning.
type reading struct {
	channels int
	took     []step
}

type step struct {
	channel int
	e       api.Elem
}

// timeOf tells what a channel told last.
func (r *reading) timeOf(channel int) int64 {
	last := int64(api.Never)
	for _, s := range r.took {
		if s.channel == channel && s.e.Kind == api.ElemTime {
			last = s.e.Time
		}
	}
	return last
}

// marks tells how many marks a channel brought, and the last one.
func (r *reading) marks(channel int) (n, last int) {
	for _, s := range r.took {
		if s.channel == channel && s.e.Kind == api.ElemMark {
			n, last = n+1, s.e.Mark
		}
	}
	return n, last
}

func (r *reading) leastTime() int64 {
	least := int64(math.MaxInt64)
	for channel := range r.channels {
		least = min(least, r.timeOf(channel))
	}
	return least
}

// leastMarks tells how many marks went on.
func (r *reading) leastMarks() int {
	least := math.MaxInt
	for channel := range r.channels {
		n, _ := r.marks(channel)
		least = min(least, n)
	}
	return least
}

// open: a channel waits if it brought a mark more than went on.
func (r *reading) open(channel int) bool {
	if channel < 0 || channel >= r.channels {
		return false
	}
	n, _ := r.marks(channel)
	return n == r.leastMarks()
}

// waiting tells the mark with which channels wait; 0: none.
func (r *reading) waiting() int {
	for channel := range r.channels {
		if n, last := r.marks(channel); n > r.leastMarks() {
			return last
		}
	}
	return 0
}

func (r *reading) wrong(channel int, e api.Elem) api.Errno {
	switch {
	case !r.open(channel):
		return api.ErrState
	case e.Kind == api.ElemRow:
		return api.OK
	case e.Kind == api.ElemTime:
		if e.Time <= r.timeOf(channel) || e.Time > api.Forever {
			return api.ErrRange
		}
		return api.OK
	case e.Kind == api.ElemMark:
		if w := r.waiting(); e.Mark < 1 || w != 0 && w != e.Mark {
			return api.ErrState
		}
		return api.OK
	}
	return api.ErrRange
}

func (r *reading) take(channel int, e api.Elem) (string, api.Errno) {
	if wrong := r.wrong(channel, e); wrong != api.OK {
		return "", wrong
	}
	time, marks := r.leastTime(), r.leastMarks()
	r.took = append(r.took, step{channel, e})
	if e.Kind == api.ElemRow || r.leastMarks() > marks {
		return shown([]api.Elem{e}), api.OK
	}
	if now := r.leastTime(); now > time {
		return fmt.Sprint("time ", now), api.OK
	}
	return "", api.OK
}

func TestG2AtRandom(t *testing.T) {
	rng := rand.New(rand.NewSource(6))
	for range 300 {
		n := 1 + rng.Intn(5)
		g, r := some(t, n), &reading{channels: n}
		for range 80 {
			channel := rng.Intn(n)
			if rng.Intn(20) == 0 {
				channel = rng.Intn(n+2) - 1
			}
			e := []api.Elem{row(rng.Int63n(9)), time(r.timeOf(channel) + rng.Int63n(4)), mark(rng.Intn(3)), mark(r.waiting()), {Kind: rng.Intn(6)}}[rng.Intn(5)]
			want, wrong := r.take(channel, e)
			l, err := g.Take(channel, e)
			if plain.Told(err) != wrong || shown(l) != want {
				t.Fatalf("%d channels, behind %v: Take(%d, %s): %q, %v, want %q, %v", n, r.took, channel, shown([]api.Elem{e}), shown(l), err, want, wrong)
			}
			if g.Time() != r.leastTime() || g.Open(channel) != r.open(channel) {
				t.Fatalf("%d channels, behind %v: %s", n, r.took, looks(g))
			}
		}
	}
}

func Example() {
	g, _ := gate.New(2)
	for _, s := range []step{{0, time(7)}, {1, time(4)}, {0, mark(1)}, {1, row(5)}, {1, mark(1)}} {
		l, _ := g.Take(s.channel, s.e)
		fmt.Println(shown(l), g.Open(0))
	}
	// Output:
	//  true
	// time 4 true
	//  false
	// row 5[] false
	// mark 1 true
}

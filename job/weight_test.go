package job_test

import (
	"math"
	"testing"

	"streamwright/api"
	"streamwright/job"
)

func TestJ4Weights(t *testing.T) {
	for _, c := range []struct {
		lines string
		want  []int
	}{
		{"", nil},
		{"w = s where c\nm = w select b as z\nsink x = m", []int{100, 100, 100}},
		{"u = s union r, s\nv = u union u\nsink x = v", []int{300, 600, 600}},
		{"k = s by a in tumble 7\nl = s by a in session 7\nn = s by nothing in whole", []int{100, 100, 100}},
		{"k = s by a in slide 10 every 10\nl = s by a in slide 10 every 9\nn = s by a in slide 10 every 5\no2 = s by a in slide 10 every 4\np = s by a in slide 64 every 1\nq = s by a in slide 129 every 2", []int{100, 200, 200, 300, 6400, 6500}},
		{"k = s by a in slide 10 every 4\nl = k by a in slide 10 every 4 give count() as n\nsink x = l", []int{300, 900, 900}},
		{"j = s join o on b = d in whole\ni = s outer join o on b = d in tumble 9\nh = s join o on b = d in session 9\ng = s join o on b = d in slide 10 every 5", []int{10000, 10000, 10000, 20000}},
		{"u = s union s\nj = u join o on b = d in whole\nk = j by d in tumble 5\nsink x = k", []int{200, 20000, 20000, 20000}},
	} {
		got := job.Weight(api.Job{Nodes: reads(t, head+c.lines)})
		same(t, c.lines, got, append([]int{100, 100, 100}, c.want...))
	}
	if got := job.Weight(api.Job{}); got != nil {
		t.Error(got)
	}
}

func made(kind int, w api.Windows, inputs ...int) api.Node {
	return api.Node{Op: api.Op{Kind: kind, Windows: w}, Inputs: inputs}
}

// TestJ4AnyJob: what Parse would not read has weights, too, and they wrap.
func TestJ4AnyJob(t *testing.T) {
	whole := api.Windows{Kind: api.Whole}
	source := made(api.OpSource, api.Windows{})
	weights := func(nodes ...api.Node) []int { return job.Weight(api.Job{Nodes: nodes}) }
	join := func(a, b int) api.Node { return made(api.OpJoin, whole, a, b) }
	same(t, "more than may be", weights(source, join(0, 0), join(1, 1), join(2, 2), join(3, 3), join(4, 4), join(5, 5)), "[100 10000 100000000 10000000000000000 -8814407033341083648 0 0]")
	squared := 1
	for range 32 {
		squared *= 10
	}
	if got := weights(source, join(0, 0), join(1, 1), join(2, 2), join(3, 3))[4]; got != squared {
		t.Errorf("it does not wrap: %d, want %d", got, squared)
	}
	same(t, "no nodes ahead", weights(made(api.OpUnion, whole, 0, 1, -1, 7), made(api.OpSink, whole, 1), made(api.OpSink, whole, math.MaxInt, math.MinInt), source), "[0 0 0 100]")
	same(t, "no inputs", weights(made(api.OpWindow, whole), made(api.OpJoin, whole), made(api.OpSink, whole), made(0, whole), made(-1, whole)), "[0 0 0 0 0]")
	same(t, "one input", weights(source, made(api.OpJoin, whole, 0), made(9, whole, 0, 0)), "[100 0 200]")
	for _, c := range []struct{ size, step, want int64 }{
		{0, 0, 0}, {5, 0, 0}, {5, -1, 0}, {math.MinInt64, -1, 0}, {math.MinInt64, 0, 0}, {0, 5, 0}, {-4, 5, 0}, {1, 5, 1}, {1000, 3, 334}, {999, 3, 333}, {math.MaxInt64, 1 << 62, 2}, {math.MaxInt64, math.MaxInt64, 1},
	} {
		slide := api.Windows{Kind: api.Slide, Size: c.size, Step: c.step}
		if got := weights(source, made(api.OpWindow, slide, 0))[1]; got != int(100*c.want) {
			t.Errorf("%+v: %d", c, got)
		}
	}
	for _, kind := range []int{0, api.Tumble, api.Session, api.Whole, 5, -1} { // a Step is no matter there
		same(t, "no slide", weights(source, made(api.OpWindow, api.Windows{Kind: kind, Size: 10, Step: 3}, 0)), "[100 100]")
	}
}

// TestJ4NothingIsWrittenInto: a job that is handed in stays as it is.
func TestJ4NothingIsWrittenInto(t *testing.T) {
	text := head + "u = s union r\nj = u join o on b = d in slide 3 every 3\nsink x = j"
	j := api.Job{Nodes: reads(t, text)}
	job.Weight(j)
	same(t, "Weight", j.Nodes, reads(t, text))
}

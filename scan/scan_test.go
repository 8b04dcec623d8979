package scan_test

import (
	"encoding/binary"
	"math"
	"slices"
	"strings"
	"testing"

	"streamwright/api"
	"streamwright/scan"
	"streamwright/value"
	"streamwright/wire"
)

func reader(b []byte) *scan.Reader { return &scan.Reader{Rest: b} }

func TestW2Int(t *testing.T) {
	numbers := []int64{0, -1, 1, 63, 64, -64, -65, 1 << 20, api.Forever, math.MaxInt64, math.MinInt64}
	var b []byte
	for _, n := range numbers {
		b = binary.AppendVarint(b, n)
	}
	r := reader(b)
	for _, want := range numbers {
		if got, ok := r.Int(); got != want || !ok {
			t.Errorf("Int: %d, %v, want %d", got, ok, want)
		}
	}
	if _, ok := r.Int(); ok || !r.Ended() {
		t.Error("a number behind the end")
	}
}

func TestW2NoInt(t *testing.T) {
	for _, s := range []string{"", "\x80", "\xff\xff", "\x80\x00", "\x81\x80\x00", strings.Repeat("\xff", 9) + "\x02", strings.Repeat("\xff", 10) + "\x01", strings.Repeat("\x80", 9) + "\x00"} {
		if n, ok := reader([]byte(s)).Int(); ok {
			t.Errorf("Int of % x: %d", s, n)
		}
	}
}

func TestW2Count(t *testing.T) {
	for _, c := range []struct {
		b    string
		want int
		ok   bool
	}{
		{"\x00", 0, true}, {"\x04ab", 2, true}, {"\x02ab", 1, true}, {"\x06ab", 0, false}, {"\x02", 0, false}, {"\x01ab", 0, false}, {"", 0, false}, {strings.Repeat("\xff", 9) + "\x01", 0, false}, {"\xfe" + strings.Repeat("\xff", 8) + "\x01", 0, false},
	} {
		if got, ok := reader([]byte(c.b)).Count(); got != c.want || ok != c.ok {
			t.Errorf("Count of % x: %d, %v", c.b, got, ok)
		}
	}
}

func TestW3Bytes(t *testing.T) {
	b := []byte("\x04ab\x00\x02c")
	r := reader(b)
	for _, want := range []string{"ab", "", "c"} {
		got, ok := r.Bytes()
		if string(got) != want || !ok {
			t.Errorf("Bytes: %q, %v, want %q", got, ok, want)
		}
		for i := range got {
			got[i] = 'z'
		}
	}
	if string(b) != "\x04ab\x00\x02c" || !r.Ended() {
		t.Error("what was read is no copy")
	}
	for _, s := range []string{"", "\x06ab", "\x01", "\x80\x00"} {
		if got, ok := reader([]byte(s)).Bytes(); got != nil || ok {
			t.Errorf("Bytes of % x: %q", s, got)
		}
	}
}

// TestW3Cut: what is cut out stands where it stood, and nothing that is put
// behind it or written into it reaches what follows.
func TestW3Cut(t *testing.T) {
	b := []byte("\x04ab\x00\x02c\x02d")
	r := reader(b)
	for i, want := range []string{"ab", "", "c", "d"} {
		got, ok := r.Cut()
		if string(got) != want || !ok || cap(got) != len(want) {
			t.Fatalf("Cut %d: %q, %v, of the capacity %d, want %q", i, got, ok, cap(got), want)
		}
		_ = append(got, "zzz"...)
		for k := range got {
			got[k] = 'y'
		}
	}
	if string(b) != "\x04yy\x00\x02y\x02y" || !r.Ended() {
		t.Errorf("of what was cut %q is left", b)
	}
	for _, s := range []string{"", "\x06ab", "\x01", "\x80\x00"} {
		if got, ok := reader([]byte(s)).Cut(); got != nil || ok {
			t.Errorf("Cut of % x: %q", s, got)
		}
	}
}

func TestW3Values(t *testing.T) {
	l := []api.Value{{}, value.Of(-3), value.Truth(true), value.Words(""), value.Words("a'b"), {}, {}, value.Of(math.MinInt64)}
	for n := range len(l) + 1 {
		b := wire.PutInt(nil, int64(n))
		for _, v := range l[:n] {
			b = wire.PutValue(b, v)
		}
		r := reader(b)
		if got, ok := r.Values(); !slices.Equal(got, l[:n]) || !ok || !r.Ended() {
			t.Errorf("Values: %+v, %v, want %+v", got, ok, l[:n])
		}
		for cut := range len(b) {
			if got, ok := reader(b[:cut]).Values(); got != nil || ok {
				t.Errorf("Values of % x: %+v", b[:cut], got)
			}
		}
	}
	if _, ok := reader([]byte("\x12" + strings.Repeat("\x00", 9))).Values(); ok {
		t.Error("nine values")
	}
}

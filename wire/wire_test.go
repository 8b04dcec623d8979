package wire_test

import (
	"bytes"
	"encoding/binary"
	"math"
	"strings"
	"testing"

	"streamwright/api"
	"streamwright/value"
	"streamwright/wire"
)

func TestW2PutInt(t *testing.T) {
	for _, c := range []struct {
		n    int64
		want string
	}{
		{0, "\x00"}, {-1, "\x01"}, {1, "\x02"}, {63, "\x7e"}, {-64, "\x7f"}, {64, "\x80\x01"}, {-65, "\x81\x01"},
		{8191, "\xfe\x7f"}, {-8192, "\xff\x7f"}, {8192, "\x80\x80\x01"},
		{math.MaxInt64, "\xfe\xff\xff\xff\xff\xff\xff\xff\xff\x01"}, {math.MinInt64, "\xff\xff\xff\xff\xff\xff\xff\xff\xff\x01"},
	} {
		if got := wire.PutInt(nil, c.n); string(got) != c.want {
			t.Errorf("PutInt of %d: % x, want % x", c.n, got, c.want)
		}
	}
	for _, n := range numbers() {
		want := binary.AppendVarint([]byte("ab"), n)
		if got := wire.PutInt([]byte("ab"), n); !bytes.Equal(got, want) {
			t.Errorf("PutInt of %d: % x, want % x", n, got, want)
		}
	}
}

// numbers has those around each power of two.
func numbers() []int64 {
	var l []int64
	for shift := range 64 {
		for off := range int64(3) {
			n := int64(1)<<shift + off - 1
			l = append(l, n, -n)
		}
	}
	return l
}

func TestW3PutValue(t *testing.T) {
	for _, c := range []struct {
		v    api.Value
		want string
	}{
		{api.Value{}, "\x00"}, {value.Of(0), "\x01\x00"}, {value.Of(-65), "\x01\x81\x01"},
		{value.Truth(false), "\x02\x00"}, {value.Truth(true), "\x02\x02"},
		{value.Words(""), "\x03\x00"}, {value.Words("a"), "\x03\x02a"}, {value.Words("\x00\xff"), "\x03\x04\x00\xff"},
		{value.Words(strings.Repeat("y", 60)), "\x03\x78" + strings.Repeat("y", 60)},
	} {
		if got := wire.PutValue(nil, c.v); string(got) != c.want {
			t.Errorf("PutValue of %+v: % x, want % x", c.v, got, c.want)
		}
		if got := wire.PutValue([]byte("ab"), c.v); string(got) != "ab"+c.want {
			t.Errorf("PutValue of %+v behind bytes: % x", c.v, got)
		}
	}
}

func TestW3PutRows(t *testing.T) {
	for _, c := range []struct {
		rows []api.Row
		want string
	}{
		{nil, "\x00"}, {[]api.Row{}, "\x00"},
		{[]api.Row{{}}, "\x02\x00\x00"},
		{[]api.Row{{Time: 3, Values: []api.Value{value.Truth(true), value.Words("a")}}}, "\x02\x06\x04\x02\x02\x03\x02a"},
		{[]api.Row{{Time: 64}, {Time: 1, Values: []api.Value{{}}}}, "\x04\x80\x01\x00\x02\x02\x00"},
	} {
		if got := wire.PutRows(nil, c.rows); string(got) != c.want {
			t.Errorf("PutRows of %+v: % x, want % x", c.rows, got, c.want)
		}
		if got := wire.PutRows([]byte("ab"), c.rows); string(got) != "ab"+c.want {
			t.Errorf("PutRows of %+v behind bytes: % x", c.rows, got)
		}
	}
}

// TestW3PutAnything: of what is not valid anything may be written, but the call ends, and keeps what stands ahead.
func TestW3PutAnything(t *testing.T) {
	values := []api.Value{
		{Kind: -1}, {Kind: 4, Int: 5, Text: "x"}, {Kind: math.MinInt64}, {Int: 1}, {Kind: api.Bool, Int: math.MinInt64},
		{Kind: api.Text, Int: 1, Text: strings.Repeat("z", 1000)},
	}
	for _, v := range values {
		if got := wire.PutValue([]byte("ab"), v); !bytes.HasPrefix(got, []byte("ab")) {
			t.Errorf("PutValue of %+v: % x", v, got)
		}
	}
	rows := []api.Row{{Time: -1}, {Time: math.MinInt64, Values: values}, {Values: make([]api.Value, 100)}}
	if got := wire.PutRows([]byte("ab"), rows); !bytes.HasPrefix(got, []byte("ab")) {
		t.Errorf("PutRows: % x", got)
	}
}

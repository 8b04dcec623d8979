package wire_test

import (
	"bytes"
	"slices"
	"strings"
	"testing"

	"streamwright/api"
	"streamwright/plain"
	"streamwright/value"
	"streamwright/wire"
)

func sameRow(a, b api.Row) bool { return a.Time == b.Time && slices.Equal(a.Values, b.Values) }

func rowLists() [][]api.Row {
	var numbered []api.Row
	for _, n := range numbers() {
		numbered = append(numbered, api.Row{Time: 1, Values: []api.Value{value.Of(n)}})
	}
	return [][]api.Row{
		nil, {{}}, {{Time: api.MaxTime}}, numbered, make([]api.Row, 300),
		{{Time: 3, Values: []api.Value{value.Truth(true), value.Words("a")}}},
		{{Time: 9}, {Time: 2, Values: make([]api.Value, api.MaxValues)}, {Time: 9}},
		{{Values: []api.Value{value.Words(""), value.Words("\x00\x80"), value.Words(strings.Repeat("w", api.MaxText)), value.Truth(false)}}},
	}
}

func TestW3RowsOfWhatPutRowsWrites(t *testing.T) {
	for _, want := range rowLists() {
		b := wire.PutRows(nil, want)
		got, err := wire.Rows(b)
		if err != nil || !slices.EqualFunc(got, want, sameRow) {
			t.Errorf("Rows(% x): %+v, %v, want %+v", b, got, err, want)
		}
	}
}

func refused(t *testing.T, b []byte) {
	t.Helper()
	got, err := wire.Rows(b)
	if plain.Told(err) != api.ErrWire || len(got) != 0 {
		t.Errorf("Rows(%.40x): %+v, %v, want ErrWire", b, got, err)
	}
}

func TestW3RowsCutOrLonger(t *testing.T) {
	for _, l := range rowLists() {
		b := wire.PutRows(nil, l)
		for n := range b {
			refused(t, b[:n])
		}
		refused(t, append(slices.Clip(b), 0))
		refused(t, append(slices.Clip(b), b...))
	}
}

func TestW3RowsOfOtherBytes(t *testing.T) {
	long := strings.Repeat("w", api.MaxText+1)
	for what, b := range map[string]string{
		"nothing":                          "",
		"a count below 0":                  "\x01",
		"a count of needless bytes":        "\x80\x00",
		"a count of rows that are not":     "\x04\x06\x00",
		"a great count":                    "\xfe\xff\xff\xff\xff\xff\xff\xff\xff\x01\x00\x00",
		"a count of more than 64 bits":     "\x80\x80\x80\x80\x80\x80\x80\x80\x80\x02",
		"a count without an end":           "\x80\x80\x80\x80\x80\x80\x80\x80\x80\x80\x80\x80\x00",
		"an eleventh byte":                 "\x80\x80\x80\x80\x80\x80\x80\x80\x80\x81\x00",
		"a time below 0":                   "\x02\x01\x00",
		"a time above MaxTime":             "\x02" + string(wire.PutInt(nil, api.Forever)) + "\x00",
		"a time of needless bytes":         "\x02\x86\x00\x00",
		"values below 0":                   "\x02\x06\x01",
		"nine values":                      "\x02\x06\x12" + strings.Repeat("\x00", 9),
		"values of needless bytes":         "\x02\x06\x80\x00",
		"a kind 4":                         "\x02\x06\x02\x04",
		"a kind 4 with a number":           "\x02\x06\x02\x04\x00",
		"a kind 255":                       "\x02\x06\x02\xff",
		"a bool 2":                         "\x02\x06\x02\x02\x04",
		"a bool -1":                        "\x02\x06\x02\x02\x01",
		"an int of needless bytes":         "\x02\x06\x02\x01\x81\x80\x00",
		"a text's length below 0":          "\x02\x06\x02\x03\x01",
		"a text that is cut":               "\x02\x06\x02\x03\x04a",
		"a text that is too long":          "\x02\x06\x02\x03\x7a" + long,
		"a text's great length":            "\x02\x06\x02\x03\xfe\xff\xff\xff\xff\xff\xff\xff\xff\x01a",
		"a text's length, needless bytes":  "\x02\x06\x02\x03\x82\x00a",
		"a second row that is not valid":   "\x04\x06\x00\x01\x00",
		"a null with a number":             "\x02\x06\x02\x00\x02",
		"something behind the last row":    "\x02\x06\x00\x00",
		"something behind a count of none": "\x00\x00",
	} {
		t.Run(what, func(t *testing.T) { refused(t, []byte(b)) })
	}
}

// TestW3RowsShort holds Rows against PutRows at all bytes of few kinds.
func TestW3RowsShort(t *testing.T) {
	signs := []byte{0, 1, 2, 3, 4, 6, 0x80, 0xff}
	all := [][]byte{{}}
	for from := 0; len(all[from]) < 6; from++ {
		for _, c := range signs {
			all = append(all, append(slices.Clip(all[from]), c))
		}
	}
	read := 0
	for _, b := range all {
		l, err := wire.Rows(b)
		if err != nil {
			if plain.Told(err) != api.ErrWire || len(l) != 0 {
				t.Fatalf("Rows(% x): %+v, %v", b, l, err)
			}
			continue
		}
		read++
		if !bytes.Equal(wire.PutRows(nil, l), b) {
			t.Fatalf("Rows(% x): %+v, of which other bytes are written", b, l)
		}
		for _, r := range l {
			if !value.ValidRow(r) {
				t.Fatalf("Rows(% x): %+v is not valid", b, r)
			}
		}
	}
	if read < 50 {
		t.Errorf("only %d were rows", read)
	}
}

func TestW3RowsIsFresh(t *testing.T) {
	want := []api.Row{{Values: []api.Value{value.Words("a")}}, {Values: []api.Value{value.Words("b")}}}
	b := wire.PutRows(nil, want)
	before := bytes.Clone(b)
	got, err := wire.Rows(b)
	if err != nil || !bytes.Equal(b, before) {
		t.Fatalf("Rows: %v, and of what was handed in % x is left", err, b)
	}
	clear(b)
	if !slices.EqualFunc(got, want, sameRow) {
		t.Errorf("what comes out hangs on what was handed in: %+v", got)
	}
	_ = append(got[0].Values, value.Of(1), value.Of(2))
	got[0].Values[0] = value.Of(3)
	if got[1].Values[0] != value.Words("b") {
		t.Error("two rows that come out share memory")
	}
}

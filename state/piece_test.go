package state_test

import (
	"bytes"
	"fmt"
	"math"
	"slices"
	"strings"
	"testing"

	"streamwright/api"
	"streamwright/plain"
	"streamwright/state"
	"streamwright/value"
)

func cell(k []api.Value, from, to int64, data string) state.Cell {
	return state.Cell{Key: k, Window: span(from, to), Data: []byte(data)}
}

func TestK4Save(t *testing.T) {
	s := store(t, 0, 32)
	if got := s.Save(); len(got) != 0 {
		t.Errorf("Save of nothing: %+v", got)
	}
	put(t, s, key(5), span(0, 10), "y")
	put(t, s, key(1), span(5, 10), "")
	put(t, s, key(5), span(-1, 4), "v")
	want := []api.Piece{
		piece(2, []byte("\x02\x02\x01\x02\x0a\x14\x00")),
		piece(14, []byte("\x04\x02\x01\x0a\x01\x08\x02v\x02\x01\x0a\x00\x14\x02y")),
	}
	if got := s.Save(); !slices.EqualFunc(got, want, samePiece) {
		t.Errorf("Save: %x, want %x", got, want)
	}
	s.Drop(key(1), span(5, 10))
	if got := s.Save(); !slices.EqualFunc(got, want[1:], samePiece) {
		t.Errorf("a group without cells has a piece: %x", got)
	}
}

// piecesOf is what Save gives of ascending cells, by the words of K4.
func piecesOf(cells []state.Cell) []api.Piece {
	var l []api.Piece
	for group := range 32 {
		var own []state.Cell
		for _, c := range cells {
			if value.Group(c.Key) == group {
				own = append(own, c)
			}
		}
		if len(own) > 0 {
			l = append(l, piece(group, bodyOf(own...)))
		}
	}
	return l
}

func TestK4SaveIsInOrder(t *testing.T) {
	all := ascending()
	want := piecesOf(all)
	for seed := range int64(5) {
		if got := mixed(t, seed, 0, 32, all).Save(); !slices.EqualFunc(got, want, samePiece) {
			t.Errorf("Save: %x, want %x", got, want)
		}
	}
}

func TestK4Load(t *testing.T) {
	all := ascending()
	pieces := piecesOf(all)
	turned := slices.Clone(pieces)
	slices.Reverse(turned)
	for _, bounds := range [][2]int{{0, 32}, {0, 5}, {5, 6}, {6, 32}, {14, 20}, {9, 9}} {
		want := looks(mixed(t, 1, bounds[0], bounds[1], all))
		for _, l := range [][]api.Piece{pieces, turned} {
			s := store(t, bounds[0], bounds[1])
			for n := range int64(40) {
				if k := key(n, n); s.Owns(k) {
					put(t, s, k, span(n, n+1), "was there")
				}
			}
			if err := s.Load(l); err != nil || looks(s) != want {
				t.Errorf("groups %v, Load: %v, %s, want %s", bounds, err, looks(s), want)
			}
		}
	}
}

func TestK4LoadOfNothing(t *testing.T) {
	for _, l := range [][]api.Piece{nil, {}, {piece(3, []byte("no body"))}, {{Group: 31}}, {piece(14, bodyOf())}} {
		s := store(t, 5, 31)
		put(t, s, key(5), span(0, 10), "y")
		if err := s.Load(l); err != nil || s.Len() != 0 || len(s.Save()) != 0 || len(s.Of(key(5))) != 0 {
			t.Errorf("Load(%x): %v, %s", l, err, looks(s))
		}
	}
}

func TestK4LoadWhichPieces(t *testing.T) {
	s := store(t, 8, 32)
	put(t, s, key(7), span(0, 10), "stays")
	good, other := piece(14, bodyOf(cell(key(5), 0, 10, "y"))), piece(2, bodyOf(cell(key(1), 0, 10, "x")))
	bad, short := copyPieces([]api.Piece{good})[0], copyPieces([]api.Piece{good})[0]
	bad.Bytes[9] ^= 1
	short.Bytes = short.Bytes[:len(short.Bytes)-1]
	none := api.Piece{Group: 32, Bytes: good.Bytes}
	for i, c := range []struct {
		l    []api.Piece
		want api.Errno
	}{
		{[]api.Piece{none}, api.ErrRange}, {[]api.Piece{{Group: -1}}, api.ErrRange}, {[]api.Piece{{Group: math.MinInt}}, api.ErrRange}, {[]api.Piece{{Group: math.MaxInt}}, api.ErrRange},
		{[]api.Piece{none, none}, api.ErrRange}, {[]api.Piece{good, good}, api.ErrState}, {[]api.Piece{other, other}, api.ErrState}, {[]api.Piece{other, good, {Group: 2}}, api.ErrState},
		{[]api.Piece{good, bad}, api.ErrState}, {[]api.Piece{bad, bad}, api.ErrSum}, {[]api.Piece{bad, none}, api.ErrSum}, {[]api.Piece{none, bad}, api.ErrRange},
		{[]api.Piece{short}, api.ErrWire}, {[]api.Piece{short, good}, api.ErrWire}, {[]api.Piece{good, good, none}, api.ErrState}, {[]api.Piece{good, none, good}, api.ErrRange},
		{[]api.Piece{{Group: 14}}, api.ErrWire}, {[]api.Piece{{Group: 14, Bytes: good.Bytes[:7]}}, api.ErrWire}, {[]api.Piece{{Group: 14, Bytes: []byte("\xff\xff\xff\xff\x00\x00\x00\x00")}}, api.ErrWire},
		{[]api.Piece{good, {Group: 15, Bytes: bad.Bytes}}, api.ErrSum}, {[]api.Piece{{Group: 14, Bytes: append(bytes.Clone(bad.Bytes), 0)}}, api.ErrSum}, {[]api.Piece{{Group: 14, Bytes: append(bytes.Clone(good.Bytes), 0)}}, api.ErrWire},
		{[]api.Piece{{Group: 14, Bytes: slices.Concat(good.Bytes, good.Bytes)}}, api.ErrWire}, {[]api.Piece{{Group: 13, Bytes: good.Bytes}}, api.ErrWire},
	} {
		tells(t, fmt.Sprint("list ", i), s, func() error { return s.Load(c.l) }, c.want)
	}
	if err := s.Load([]api.Piece{{Group: 2, Bytes: bad.Bytes}, good, {Group: 7}}); err != nil || looks(s) != "1: 5 0-10 79; " {
		t.Errorf("pieces of other groups are not passed over: %v, %s", err, looks(s))
	}
}

// wrongBodies has bodies that are none of the group 14, by what is wrong.
func wrongBodies() map[string][]byte {
	five := key(inGroup14)
	one := "\x02\x01\x0a\x00\x14\x02y" // a value, 5; from 0, to 10; a byte, y
	huge := "\xfe" + strings.Repeat("\xff", 8) + "\x01"
	l := map[string][]byte{
		"nothing": nil, "no count": []byte("\x80"), "a count below 0": []byte("\x01"), "a great count": []byte(huge + one), "fewer cells": []byte("\x04" + one), "more cells": []byte("\x02" + one + one),
		"a byte behind": []byte("\x02" + one + "\x00"), "none, and a byte": []byte("\x00\x00"), "a long count": []byte("\x82\x00" + one),
		"no values below 0": []byte("\x02\x01\x00\x14\x02y"), "many values": []byte("\x02" + huge + "\x00\x00\x14\x00"), "a value too few": []byte("\x02\x04\x01\x0a"),
		"a long value": []byte("\x02\x02\x01\x8a\x00\x00\x14\x02y"), "a long From": []byte("\x02\x02\x01\x0a\x80\x00\x14\x02y"), "a long To": []byte("\x02\x02\x01\x0a\x00\x94\x00\x02y"), "long bytes": []byte("\x02\x02\x01\x0a\x00\x14\x82\x00y"),
		"fewer bytes": []byte("\x02\x02\x01\x0a\x00\x14\x04y"), "bytes below 0": []byte("\x02\x02\x01\x0a\x00\x14\x01"), "great bytes": []byte("\x02\x02\x01\x0a\x00\x14" + huge + "y"), "no bytes": []byte("\x02\x02\x01\x0a\x00\x14"),
		"no To": []byte("\x02\x02\x01\x0a\x00"), "no From": []byte("\x02\x02\x01\x0a"), "no value": []byte("\x02\x02"), "no key": []byte("\x02"),
		"another group": bodyOf(cell(key(inGroup13), 0, 10, "y")), "another group behind": bodyOf(cell(five, 0, 10, "y"), cell(key(inGroup20), 0, 11, "y")), "a group of others": bodyOf(cell(key(inGroup2), 0, 10, "y")),
		"the same twice": bodyOf(cell(five, 0, 10, "y"), cell(five, 0, 10, "y")), "the same window": bodyOf(cell(five, 0, 10, "y"), cell(five, 0, 10, "z")),
		"To descends": bodyOf(cell(five, 0, 11, ""), cell(five, 0, 10, "")), "From descends": bodyOf(cell(five, 1, 10, ""), cell(five, 0, 10, "")), "by From first": bodyOf(cell(five, 0, 11, ""), cell(five, 1, 10, "")),
		"an empty window": bodyOf(cell(five, 4, 4, "")), "a turned window": bodyOf(cell(five, 5, 4, "")), "an early window": bodyOf(cell(five, -1<<20-1, 4, "")), "a late window": bodyOf(cell(five, 0, end+1, "")), "a great window": bodyOf(cell(five, math.MinInt64, math.MaxInt64, "")),
		"a window behind": bodyOf(cell(five, 0, 10, ""), cell(five, 12, 12, "")),
	}
	for _, v := range []api.Value{{Kind: 4}, {Kind: 255}, {Kind: api.Bool, Int: 2}, {Kind: api.Bool, Int: -1}, value.Words(strings.Repeat("w", 61))} {
		l[fmt.Sprintf("the value %+v", v)] = bodyOf(cell(inGroup(14, v), 0, 10, ""))
	}
	l["nine values"] = bodyOf(cell(inGroup(14, make([]api.Value, 8)...), 0, 10, ""))
	return l
}

// inGroup gives a key of this group: a number, and values.
func inGroup(group int, l ...api.Value) []api.Value {
	for n := int64(0); ; n++ {
		if k := append(key(n), l...); value.Group(k) == group {
			return k
		}
	}
}

func TestK4LoadOfBodiesThatAreNone(t *testing.T) {
	s := store(t, 8, 32)
	put(t, s, key(7), span(0, 10), "stays")
	ahead := piece(13, bodyOf(cell(key(2), 0, 10, "x")))
	for what, body := range wrongBodies() {
		tells(t, what, s, func() error { return s.Load([]api.Piece{piece(14, body)}) }, api.ErrWire)
		tells(t, what+", behind a good one", s, func() error { return s.Load([]api.Piece{ahead, piece(14, body), {Group: 99}}) }, api.ErrWire)
	}
}

// TestK4LoadOfKeysInOrder: of two keys of a group in the same window, the
// lesser one comes first.
func TestK4LoadOfKeysInOrder(t *testing.T) {
	own := [][]api.Value{inGroup(14), inGroup(14, value.Of(0)), inGroup(14, value.Of(1))}
	slices.SortFunc(own, func(a, b []api.Value) int { return slices.CompareFunc(a, b, value.Compare) })
	s := store(t, 14, 15)
	good := bodyOf(cell(own[0], 0, 10, "a"), cell(own[1], 0, 10, "b"), cell(own[2], -5, 11, "c"))
	if err := s.Load([]api.Piece{piece(14, good)}); err != nil || s.Len() != 3 {
		t.Errorf("Load: %v", err)
	}
	bad := bodyOf(cell(own[1], 0, 10, "b"), cell(own[0], 0, 10, "a"), cell(own[2], -5, 11, "c"))
	tells(t, "keys descend", s, func() error { return s.Load([]api.Piece{piece(14, bad)}) }, api.ErrWire)
}

func TestK4LoadOfWhatIsTooMuch(t *testing.T) {
	half := strings.Repeat("h", api.MaxKept/2-96)
	pieces := func(more string) []api.Piece {
		return []api.Piece{piece(13, bodyOf(cell(key(2), 0, 10, half))), piece(14, bodyOf(cell(key(5), 0, 10, half+more)))}
	}
	s := store(t, 8, 32)
	put(t, s, key(7), span(0, 10), "stays")
	if err := s.Load(pieces("y")); plain.Told(err) != api.ErrWire || looks(s) != "1: 7 0-10 7374617973; " {
		t.Errorf("Load of a byte too much: %v", err)
	}
	within := piece(14, bodyOf(cell(key(5), 0, 10, half), cell(key(5), 0, 11, half+"y")))
	if err := s.Load([]api.Piece{within}); plain.Told(err) != api.ErrWire || s.Len() != 1 {
		t.Errorf("Load of a byte too much in one piece: %v", err)
	}
	if err := s.Load(pieces("")); err != nil || s.Len() != 2 {
		t.Errorf("Load of just MaxKept: %v", err)
	}
	if err := s.Put(key(7), span(0, 10), nil); plain.Told(err) != api.ErrFull {
		t.Errorf("what was loaded does not weigh: %v", err)
	}
	// What was there ahead of it does not count.
	if err := s.Load(s.Save()); err != nil || s.Len() != 2 {
		t.Errorf("Load of what fills it again: %v", err)
	}
	low := store(t, 8, 14)
	if err := low.Load(pieces("y")); err != nil || low.Len() != 1 {
		t.Errorf("pieces of other groups weigh: %v", err)
	}
}

package disk_test

import (
	"bytes"
	"encoding/binary"
	"hash/crc32"
	"math"
	"math/rand"
	"reflect"
	"slices"
	"testing"

	"streamwright/api"
	"streamwright/disk"
	"streamwright/plain"
	"streamwright/wire"
)

func held(node, group int, data string) api.Held {
	return api.Held{Node: node, Piece: api.Piece{Group: group, Bytes: []byte(data)}}
}

// some has numbers and bytes of many kinds.
func some() api.Check {
	return api.Check{
		Mark:    7,
		Offsets: []api.Offset{{Node: 1, Part: 2, At: 3}, {Node: -1, Part: math.MinInt, At: math.MaxInt}, {}},
		Pieces:  []api.Held{held(4, 9, "xy"), held(math.MinInt, math.MaxInt, ""), held(-1, -1, "\x00\xff\x80"), held(4, 9, "z")},
	}
}

func sameHeld(a, b api.Held) bool {
	return a.Node == b.Node && a.Piece.Group == b.Piece.Group && bytes.Equal(a.Piece.Bytes, b.Piece.Bytes)
}

func sameCheck(a, b api.Check) bool {
	return a.Mark == b.Mark && slices.Equal(a.Offsets, b.Offsets) && slices.EqualFunc(a.Pieces, b.Pieces, sameHeld)
}

func packed(t *testing.T, c api.Check) []byte {
	t.Helper()
	b, err := disk.Pack(c)
	if err != nil {
		t.Fatalf("Pack(%+v): %v", c, err)
	}
	return b
}

// bound tells how many bytes a checkpoint may have.
func bound(c api.Check) int {
	n := 1 + 3*len(c.Offsets) + 2*len(c.Pieces)
	for _, one := range c.Pieces {
		n += len(one.Piece.Bytes)
	}
	return 64*n + 64
}

// goesRound checks that what Pack writes is sealed, is no longer than it may
// be, and is read as it was.
func goesRound(t *testing.T, c api.Check) {
	t.Helper()
	b := packed(t, c)
	if len(b) > bound(c) {
		t.Errorf("Pack(%+v): %d bytes, and %d may be", c, len(b), bound(c))
	}
	if _, end, err := wire.Open(b, 0); err != nil || end != len(b) {
		t.Errorf("Pack(%+v): it is sealed up to %d of %d, %v", c, end, len(b), err)
	}
	got, err := disk.Unpack(b)
	if err != nil || !sameCheck(got, c) {
		t.Errorf("Unpack: %+v, %v, want %+v", got, err, c)
	}
}

func TestD2Pack(t *testing.T) {
	goesRound(t, api.Check{})
	goesRound(t, some())
	for _, n := range []int{1, -1, 63, 64, -64, -65, math.MaxInt, math.MinInt} {
		goesRound(t, api.Check{Mark: n})
		goesRound(t, api.Check{Offsets: []api.Offset{{Node: n}, {Part: n}, {At: n}}})
		goesRound(t, api.Check{Pieces: []api.Held{held(n, 0, ""), held(0, n, ""), held(n, n, "a")}})
	}
	goesRound(t, api.Check{Offsets: make([]api.Offset, 1000), Pieces: make([]api.Held, 1000)})
	goesRound(t, api.Check{Offsets: []api.Offset{}, Pieces: []api.Held{{Piece: api.Piece{Bytes: []byte{}}}}})
	goesRound(t, api.Check{Pieces: []api.Held{{Piece: api.Piece{Bytes: make([]byte, 1<<20)}}, held(1, 2, "behind")}})
}

func TestD2AtRandom(t *testing.T) {
	rnd := rand.New(rand.NewSource(12))
	number := func() int { return int(rnd.Uint64()) >> rnd.Intn(64) }
	for range 2000 {
		c := api.Check{Mark: number()}
		for range rnd.Intn(5) {
			c.Offsets = append(c.Offsets, api.Offset{Node: number(), Part: number(), At: number()})
		}
		for range rnd.Intn(5) {
			data := make([]byte, rnd.Intn(200))
			rnd.Read(data)
			c.Pieces = append(c.Pieces, held(number(), number(), string(data)))
		}
		goesRound(t, c)
	}
}

// notUnpacked checks which error bytes lead to.
func notUnpacked(t *testing.T, what string, b []byte, want api.Errno) {
	t.Helper()
	c, err := disk.Unpack(b)
	if plain.Told(err) != want || !reflect.DeepEqual(c, api.Check{}) {
		t.Errorf("Unpack of %s: %+v, %v, want %v", what, c, err, want)
	}
}

func TestD2Torn(t *testing.T) {
	b := packed(t, some())
	for n := range b {
		notUnpacked(t, "a beginning", b[:n], api.ErrWire)
	}
	notUnpacked(t, "what has a byte behind it", append(bytes.Clone(b), 0), api.ErrWire)
	notUnpacked(t, "two", append(bytes.Clone(b), b...), api.ErrWire)
	notUnpacked(t, "what has a byte ahead of it", append([]byte{0}, b...), api.ErrSum)
	for bit := range len(b) * 8 {
		turned := bytes.Clone(b)
		turned[bit/8] ^= 1 << (bit % 8)
		_, _, err := wire.Open(turned, 0)
		notUnpacked(t, "what has a bit turned", turned, plain.Told(err))
		// What Open tells comes ahead of what stands behind.
		if bit >= 32 {
			notUnpacked(t, "that, and something behind", append(turned, 0), api.ErrSum)
		}
	}
}

// sealed seals a body as W4 says.
func sealed(body []byte) []byte {
	b := binary.BigEndian.AppendUint32(nil, uint32(len(body)))
	b = binary.BigEndian.AppendUint32(b, crc32.ChecksumIEEE(body))
	return append(b, body...)
}

// numbers gives numbers as bytes.
func numbers(l ...int64) []byte {
	var b []byte
	for _, n := range l {
		b = binary.AppendVarint(b, n)
	}
	return b
}

func TestD2NoBody(t *testing.T) {
	notUnpacked(t, "nothing", sealed(nil), api.ErrWire)
	for _, l := range [][]int64{
		{7}, {7, 0}, {7, 1, 1, 2}, {7, 1, 1, 2, 3}, {7, 0, 0, 0}, {7, 1, 1, 2, 3, 0, 0}, {7, 2, 1, 2, 3, 0},
		{7, -1, 0}, {7, 0, -1}, {7, 0, 1}, {7, 0, 1, 4}, {7, 0, 1, 4, 9}, {7, 0, 1, 4, 9, -1}, {7, 0, 1, 4, 9, 1}, {7, 0, 1, 4, 9, 2, 0},
		{7, 0, 1, 4, 9, 0, 0}, {7, 0, 2, 4, 9, 0}, {7, math.MaxInt64, 0}, {7, 0, math.MaxInt64, 4, 9, 0}, {7, 0, 1, 4, 9, math.MaxInt64, 0}, {7, math.MinInt64, 0},
	} {
		notUnpacked(t, "a body that is none", sealed(numbers(l...)), api.ErrWire)
	}
	for _, body := range []string{
		"\x8e\x00\x00\x00", "\x0e\x80\x00\x00", "\x0e\x00\x80\x00", "\x0e\x00\x02\x08\x12\x80\x00", // more bytes than needed
		"\xff\xff\xff\xff\xff\xff\xff\xff\xff\x02\x00\x00", "\x0e\x00\x80",
	} {
		notUnpacked(t, "a number that is none", sealed([]byte(body)), api.ErrWire)
	}
	if c, err := disk.Unpack(sealed(numbers(7, 0, 1, 4, 9, 0))); err != nil || !sameCheck(c, api.Check{Mark: 7, Pieces: []api.Held{held(4, 9, "")}}) {
		t.Errorf("Unpack of a body that is one: %+v, %v", c, err)
	}
}

// TestD2OnlyWhatPackWrites: of bodies of any bytes those are read of which
// Pack writes just these bytes.
func TestD2OnlyWhatPackWrites(t *testing.T) {
	rnd := rand.New(rand.NewSource(13))
	read := 0
	for range 200000 {
		body := make([]byte, 3+rnd.Intn(12))
		for i := range body {
			body[i] = byte(rnd.Intn(5)) * byte(rnd.Intn(2))
			if rnd.Intn(20) == 0 {
				body[i] |= 128
			}
		}
		c, err := disk.Unpack(sealed(body))
		switch {
		case err == nil && !bytes.Equal(packed(t, c), sealed(body)):
			t.Fatalf("% x is read as %+v", body, c)
		case err == nil:
			read++
		case plain.Told(err) != api.ErrWire:
			t.Fatalf("% x: %v", body, err)
		}
	}
	if read < 1000 {
		t.Errorf("only %d were checkpoints", read)
	}
}

func TestD2Full(t *testing.T) {
	// Ahead of the piece's bytes stand five numbers of a byte each, and how
	// many there are, which takes four.
	most := api.MaxBody - 5 - 4
	data := make([]byte, most+1)
	data[0], data[most-1] = 1, 2
	c := api.Check{Mark: 1, Pieces: []api.Held{{Node: 1, Piece: api.Piece{Group: 1, Bytes: data}}}}
	if b, err := disk.Pack(c); plain.Told(err) != api.ErrFull || b != nil {
		t.Errorf("Pack of one byte too many: %d bytes, %v", len(b), err)
	}
	c.Pieces[0].Piece.Bytes = data[:most]
	b := packed(t, c)
	if len(b) != 8+api.MaxBody {
		t.Errorf("Pack of the longest: %d bytes", len(b))
	}
	if got, err := disk.Unpack(b); err != nil || !sameCheck(got, c) {
		t.Errorf("Unpack of the longest: %v", err)
	}
}

// TestD2FullSoon: pieces of one memory may be far more than fits into any.
func TestD2FullSoon(t *testing.T) {
	one := api.Held{Piece: api.Piece{Bytes: make([]byte, 1<<26)}}
	c := api.Check{Pieces: slices.Repeat([]api.Held{one}, 1<<16)}
	if b, err := disk.Pack(c); plain.Told(err) != api.ErrFull || b != nil {
		t.Errorf("Pack of 2^42 bytes: %d bytes, %v", len(b), err)
	}
	// Without bytes it is the numbers that are too many.
	long := api.Offset{Node: math.MinInt, Part: math.MinInt, At: math.MinInt}
	c = api.Check{Offsets: slices.Repeat([]api.Offset{long}, api.MaxBody/30+1)}
	if b, err := disk.Pack(c); plain.Told(err) != api.ErrFull || b != nil {
		t.Errorf("Pack of too many numbers: %d bytes, %v", len(b), err)
	}
}

func TestD2PackIsFresh(t *testing.T) {
	c := some()
	b := packed(t, c)
	before := bytes.Clone(b)
	if !sameCheck(c, some()) {
		t.Errorf("Pack: of what was handed in %+v is left", c)
	}
	clear(c.Offsets)
	for _, one := range c.Pieces {
		clear(one.Piece.Bytes)
	}
	clear(c.Pieces)
	if !bytes.Equal(b, before) {
		t.Error("what Pack gave hangs on what was handed in")
	}
}

func TestD2UnpackIsFresh(t *testing.T) {
	b := packed(t, some())
	before := bytes.Clone(b)
	one, err := disk.Unpack(b)
	if err != nil || !bytes.Equal(b, before) {
		t.Fatalf("Unpack: %v, and of what was handed in % x is left", err, b)
	}
	clear(b)
	if !sameCheck(one, some()) {
		t.Errorf("what Unpack gave hangs on what was handed in: %+v", one)
	}
	// Neither what is written into a piece nor what is put behind it is seen
	// by another one.
	for i := range one.Pieces {
		fresh, _ := disk.Unpack(before)
		data := fresh.Pieces[i].Piece.Bytes
		clear(data)
		_ = append(data, bytes.Repeat([]byte("!"), 40)...)
		want := some()
		clear(want.Pieces[i].Piece.Bytes)
		if !sameCheck(fresh, want) {
			t.Errorf("behind writing over piece %d: %+v", i, fresh)
		}
	}
}

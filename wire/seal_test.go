package wire_test

import (
	"bytes"
	"encoding/binary"
	"hash/crc32"
	"math"
	"testing"

	"streamwright/api"
	"streamwright/plain"
	"streamwright/wire"
)

func TestW1Sum(t *testing.T) {
	for _, c := range []struct {
		b    string
		want uint32
	}{
		{"", 0}, {"123456789", 0xcbf43926}, {"\x00", 0xd202ef8d}, {"\xff", 0xff000000}, {"\xff\xff\xff\xff", 0xffffffff},
	} {
		if got := wire.Sum([]byte(c.b)); got != c.want {
			t.Errorf("Sum of % x: %08x, want %08x", c.b, got, c.want)
		}
	}
	if wire.Sum(nil) != 0 {
		t.Error("Sum of nil is not 0")
	}
	var all []byte
	for n := range 600 {
		all = append(all, byte(n*7))
		one := []byte{byte(n)}
		if wire.Sum(all) != bitByBit(all) || wire.Sum(one) != bitByBit(one) {
			t.Fatalf("Sum at %d: %08x, %08x", n, wire.Sum(all), wire.Sum(one))
		}
	}
}

// bitByBit is the sum as W1 tells it.
func bitByBit(b []byte) uint32 {
	register := uint32(math.MaxUint32)
	for _, c := range b {
		for bit := range 8 {
			differ := register&1 != uint32(c>>bit&1)
			register >>= 1
			if differ {
				register ^= 0xedb88320
			}
		}
	}
	return ^register
}

func TestW4Seal(t *testing.T) {
	for _, c := range []struct{ body, want string }{
		{"123456789", "\x00\x00\x00\x09\xcb\xf4\x39\x26123456789"},
		{"", "\x00\x00\x00\x00\x00\x00\x00\x00"},
		{"\x00", "\x00\x00\x00\x01\xd2\x02\xef\x8d\x00"},
	} {
		got, err := wire.Seal([]byte(c.body))
		if err != nil || string(got) != c.want {
			t.Errorf("Seal(%q): % x, %v, want % x", c.body, got, err, c.want)
		}
	}
	long := bytes.Repeat([]byte("ab"), 0x8182)
	got, err := wire.Seal(long)
	if err != nil || !bytes.HasPrefix(got, []byte{0, 1, 3, 4}) || !bytes.Equal(got[8:], long) {
		t.Errorf("Seal of %d bytes: % x .., %v", len(long), got[:8], err)
	}
}

func sealed(t *testing.T, body string) []byte {
	t.Helper()
	b, err := wire.Seal([]byte(body))
	if err != nil {
		t.Fatal(err)
	}
	return b
}

func TestW4Open(t *testing.T) {
	var all []byte
	bodies := []string{"", "a", "123456789", "\x00\x00", ""}
	for _, s := range bodies {
		all = append(all, sealed(t, s)...)
	}
	at := 0
	for _, s := range bodies {
		body, end, err := wire.Open(all, at)
		if err != nil || string(body) != s || end != at+8+len(s) {
			t.Fatalf("Open at %d: %q, %d, %v, want %q", at, body, end, err, s)
		}
		at = end
	}
	notOpen(t, all, at, api.ErrWire)
}

func notOpen(t *testing.T, b []byte, at int, want api.Errno) {
	t.Helper()
	body, end, err := wire.Open(b, at)
	if plain.Told(err) != want || len(body) != 0 || end != 0 {
		t.Errorf("Open(%.40x, %d): %d bytes, %d, %v, want %v", b, at, len(body), end, err, want)
	}
}

func TestW4OpenNothing(t *testing.T) {
	b := append([]byte("xx"), sealed(t, "abc")...)
	for _, at := range []int{-1, math.MinInt, len(b) - 7, len(b) - 1, len(b), len(b) + 1, math.MaxInt - 8, math.MaxInt} {
		notOpen(t, b, at, api.ErrWire)
	}
	for n := range b {
		notOpen(t, b[:n], 2, api.ErrWire)
	}
	notOpen(t, nil, 0, api.ErrWire)
	notOpen(t, []byte("\xff\xff\xff\xff\x00\x00\x00\x00"), 0, api.ErrWire)
	notOpen(t, []byte("\x80\x00\x00\x00\x00\x00\x00\x00"), 0, api.ErrWire)
	notOpen(t, []byte("\x00\x00\x00\x02\x00\x00\x00\x00a"), 0, api.ErrWire)
}

func TestW4OpenTurned(t *testing.T) {
	b := sealed(t, "123456789")
	for bit := 4 * 8; bit < len(b)*8; bit++ {
		turned := bytes.Clone(b)
		turned[bit/8] ^= 1 << (bit % 8)
		notOpen(t, turned, 0, api.ErrSum)
	}
	shorter := bytes.Clone(b)
	shorter[3]--
	notOpen(t, shorter, 0, api.ErrSum)
}

func TestW4MaxBody(t *testing.T) {
	// Room for a head, and one byte more than a body may have.
	b := make([]byte, 8+api.MaxBody+1)
	body := b[8:]
	body[0], body[api.MaxBody-1], body[api.MaxBody] = 1, 2, 3
	if got, err := wire.Seal(body); plain.Told(err) != api.ErrFull || len(got) != 0 {
		t.Errorf("Seal of one byte too many: %d bytes, %v, want ErrFull", len(got), err)
	}
	binary.BigEndian.PutUint32(b, api.MaxBody+1)
	binary.BigEndian.PutUint32(b[4:], crc32.ChecksumIEEE(body))
	notOpen(t, b, 0, api.ErrWire)

	got, err := wire.Seal(body[:api.MaxBody])
	if err != nil {
		t.Fatal(err)
	}
	binary.BigEndian.PutUint32(b, api.MaxBody)
	binary.BigEndian.PutUint32(b[4:], crc32.ChecksumIEEE(body[:api.MaxBody]))
	if !bytes.Equal(got, b[:len(b)-1]) {
		t.Error("Seal of the longest body: other bytes")
	}
	back, end, err := wire.Open(b, 0)
	if err != nil || end != len(b)-1 || !bytes.Equal(back, body[:api.MaxBody]) {
		t.Errorf("Open of the longest body: %d bytes, %d, %v", len(back), end, err)
	}
}

func TestW4IsFresh(t *testing.T) {
	body := []byte("abc..")[:3]
	b, err := wire.Seal(body)
	if err != nil || string(body[:5]) != "abc.." {
		t.Fatalf("Seal: %v, and of what was handed in %q is left", err, body[:5])
	}
	body[0] = 'x'
	back, _, err := wire.Open(b, 0)
	if err != nil || string(back) != "abc" {
		t.Fatalf("what Seal gave hangs on what was handed in: %q, %v", back, err)
	}
	b[8] = 'y'
	if string(back) != "abc" {
		t.Error("what Open gave hangs on what was handed in")
	}
	back[1] = 'z'
	if b[9] != 'b' {
		t.Error("what was handed in to Open hangs on what it gave")
	}
}

package disk_test

import (
	"fmt"
	"math"
	"math/rand"
	"slices"
	"strings"
	"testing"

	"streamwright/api"
	"streamwright/disk"
	"streamwright/plain"
)

// looks writes all that can be seen of a disk.
func looks(d *disk.Disk) string {
	var b strings.Builder
	for _, name := range d.Names() {
		data, ok := d.Read(name)
		if !ok {
			b.WriteString("not ")
		}
		fmt.Fprintf(&b, "%s=%s ", name, data)
	}
	fmt.Fprintf(&b, "loose %d", d.Loose())
	return b.String()
}

func sees(t *testing.T, what string, d *disk.Disk, want string) {
	t.Helper()
	if got := looks(d); got != want {
		t.Errorf("%s: %q, want %q", what, got, want)
	}
}

// written gives a disk with files, in order: each a name, a "=" and its bytes.
func written(t *testing.T, d *disk.Disk, files ...string) *disk.Disk {
	t.Helper()
	for _, one := range files {
		name, data, _ := strings.Cut(one, "=")
		if err := d.Write(name, []byte(data)); err != nil {
			t.Fatalf("Write(%q): %v", name, err)
		}
	}
	return d
}

func TestD1Write(t *testing.T) {
	d := disk.New()
	sees(t, "New", d, "loose 0")
	written(t, d, "b=one", "a=two", "", "c\x00=", "B=x")
	sees(t, "Write", d, "= B=x a=two b=one c\x00= loose 5")
	for _, name := range []string{"a", "b", "", "c\x00"} {
		if err := d.Write(name, []byte("three")); plain.Told(err) != api.ErrState {
			t.Errorf("Write(%q) once more: %v", name, err)
		}
	}
	sees(t, "Write once more", d, "= B=x a=two b=one c\x00= loose 5")
	d.Sync()
	if err := d.Write("a", nil); plain.Told(err) != api.ErrState {
		t.Errorf("Write behind Sync: %v", err)
	}
	sees(t, "Sync", d, "= B=x a=two b=one c\x00= loose 0")
}

func TestD1Read(t *testing.T) {
	d := written(t, disk.New(), "a=")
	if data, ok := d.Read("a"); len(data) != 0 || !ok {
		t.Errorf("Read of a file without bytes: %q, %v", data, ok)
	}
	for _, name := range []string{"", "b", "A", "a "} {
		if data, ok := d.Read(name); data != nil || ok {
			t.Errorf("Read(%q): %q, %v", name, data, ok)
		}
	}
}

func TestD1Crash(t *testing.T) {
	for _, c := range []struct {
		whole int
		want  string
	}{
		{math.MinInt, "c=12 old=kept loose 0"}, {-1, "c=12 old=kept loose 0"}, {0, "c=12 old=kept loose 0"},
		{1, "a=123 c=12345 old=kept loose 0"}, {2, "a=123456 c=12345 d= old=kept loose 0"},
		{3, "a=123456 b= c=12345 d=1 old=kept loose 0"},
		{4, "a=123456 b= c=12345 d=1 old=kept loose 0"}, {math.MaxInt, "a=123456 b= c=12345 d=1 old=kept loose 0"},
	} {
		d := written(t, disk.New(), "old=kept")
		d.Sync()
		written(t, d, "c=12345", "a=123456", "d=1", "b=")
		d.Crash(c.whole)
		sees(t, fmt.Sprint("Crash ", c.whole), d, c.want)
		// None is loose any more: what is left stays.
		d.Crash(0)
		sees(t, fmt.Sprint("Crash behind Crash ", c.whole), d, c.want)
	}
}

func TestD1CrashOfNothing(t *testing.T) {
	d := disk.New()
	for _, whole := range []int{0, -1, 3} {
		d.Crash(whole)
		sees(t, "Crash", d, "loose 0")
	}
	written(t, d, "a=1234")
	d.Crash(0)
	written(t, d, "b=123456")
	d.Crash(0)
	sees(t, "each crash halves what is loose alone", d, "a=12 b=123 loose 0")
}

func TestD1Sync(t *testing.T) {
	d := written(t, disk.New(), "b=12", "a=34")
	d.Sync()
	written(t, d, "c=56")
	d.Crash(-1)
	sees(t, "Crash behind Sync", d, "a=34 b=12 c=5 loose 0")
}

func TestD1Remove(t *testing.T) {
	d := written(t, disk.New(), "a=1234", "b=5678", "c=90")
	if d.Remove("d") || d.Remove("") {
		t.Error("Remove of what is not there")
	}
	if !d.Remove("a") || d.Remove("a") {
		t.Error("Remove")
	}
	sees(t, "Remove", d, "b=5678 c=90 loose 2")
	// What is written once more stands behind all others.
	written(t, d, "a=4321")
	sees(t, "Write behind Remove", d, "a=4321 b=5678 c=90 loose 3")
	d.Crash(1)
	sees(t, "Crash behind Remove", d, "b=5678 c=9 loose 0")
	if !d.Remove("b") || !d.Remove("c") || d.Remove("c") {
		t.Error("Remove of what is not loose")
	}
	sees(t, "Remove of all", d, "loose 0")
}

// TestD1RemoveSynced: a file that takes the place of one that was not loose is.
func TestD1RemoveSynced(t *testing.T) {
	d := written(t, disk.New(), "a=1234")
	d.Sync()
	d.Remove("a")
	written(t, d, "b=12", "a=5678")
	d.Crash(1)
	sees(t, "Crash", d, "a=56 b=12 loose 0")
}

func TestD1IsFresh(t *testing.T) {
	d, data := disk.New(), []byte("abcdef..")[:6]
	if err := d.Write("a", data); err != nil || string(data[:8]) != "abcdef.." {
		t.Fatalf("Write: %v, and of what was handed in %q is left", err, data[:8])
	}
	clear(data)
	sees(t, "what was handed in is written over", d, "a=abcdef loose 1")
	for range 2 {
		one, _ := d.Read("a")
		other, _ := d.Read("a")
		clear(one)
		if _ = append(one, 'x'); strings.Trim(string(other), "abcdef") != "" {
			t.Errorf("two answers share memory: %q", other)
		}
		names := d.Names()
		names[0] = "z"
		sees(t, "what was handed out is written over", d, "a="+string(other)+" loose "+fmt.Sprint(d.Loose()))
		d.Crash(0)
	}
	sees(t, "Crash", d, "a=abc loose 0")
}

// file is one by the words of the chapter.
type file struct {
	name, data string
	loose      bool
}

// files is a disk by the words of the chapter: all files, in the order in
// which they were written.
type files []file

func (l files) place(name string) int {
	return slices.IndexFunc(l, func(f file) bool { return f.name == name })
}

func (l files) crashed(whole int) files {
	var out files
	met := 0
	for _, f := range l {
		if f.loose {
			if met == max(whole, 0) {
				f.data = f.data[:len(f.data)/2]
			} else if met > max(whole, 0) {
				f.name = ""
			}
			met++
		}
		if f.loose = false; f.name != "" {
			out = append(out, f)
		}
	}
	return out
}

func (l files) looks() string {
	l = slices.Clone(l)
	slices.SortFunc(l, func(a, b file) int { return strings.Compare(a.name, b.name) })
	s, loose := "", 0
	for _, f := range l {
		if s += f.name + "=" + f.data + " "; f.loose {
			loose++
		}
	}
	return s + fmt.Sprint("loose ", loose)
}

func TestD1AtRandom(t *testing.T) {
	rnd := rand.New(rand.NewSource(11))
	for range 200 {
		d, l := disk.New(), files(nil)
		for range 60 {
			name := string(rune('a' + rnd.Intn(7)))
			at := l.place(name)
			switch rnd.Intn(12) {
			case 0:
				d.Sync()
				for i := range l {
					l[i].loose = false
				}
			case 1:
				whole := rnd.Intn(8) - 1
				d.Crash(whole)
				l = l.crashed(whole)
			case 2, 3, 4:
				if d.Remove(name) != (at >= 0) {
					t.Fatalf("Remove(%q) of %s", name, l.looks())
				}
				if at >= 0 {
					l = slices.Delete(l, at, at+1)
				}
			default:
				data := strings.Repeat(name, rnd.Intn(6))
				if err := d.Write(name, []byte(data)); (err == nil) != (at < 0) {
					t.Fatalf("Write(%q) to %s: %v", name, l.looks(), err)
				}
				if at < 0 {
					l = append(l, file{name, data, true})
				}
			}
			if got, want := looks(d), l.looks(); got != want {
				t.Fatalf("%s, want %s", got, want)
			}
		}
	}
}

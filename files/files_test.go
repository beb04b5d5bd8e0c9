package files

import (
	"fmt"
	"math"
	"slices"
	"strings"
	"testing"
	"unsafe"

	"tollhouse/api"
)

// disk is an empty one.
func disk(t *testing.T, size int) *Files {
	t.Helper()
	f, e := New(size)
	if f == nil || e != api.OK {
		t.Fatalf("New(%d) = %v, %d", size, f, e)
	}
	return f
}

// want asks for an answer.
func want(t *testing.T, name string, got, e api.Errno) {
	t.Helper()
	if got != e {
		t.Errorf("%s: %d, want %d", name, got, e)
	}
}

// has asks for all files, as a text: their names and bytes, by rising names.
func has(t *testing.T, name string, f *Files, files string) {
	t.Helper()
	var l []string
	for _, file := range f.List() {
		l = append(l, file.Name+":"+string(file.Bytes))
	}
	if got := strings.Join(l, " "); got != files {
		t.Errorf("%s: the files are %q, want %q", name, got, files)
	}
}

// read asks for what a file has.
func read(t *testing.T, f *Files, name, b string, e api.Errno) {
	t.Helper()
	if got, answer := f.Read(name); string(got) != b || answer != e {
		t.Errorf("Read(%q) = %q, %d, want %q, %d", name, got, answer, b, e)
	}
}

// wrongNames may not be.
func wrongNames() []string {
	l := []string{"", strings.Repeat("a", 33), strings.Repeat("a", 300), "A", "Z", "aB", "a b", " a", "a ", "a.", "a/b", "_", "a\x00", "a\n", "\u00E4", "a\u0161", "\u0161", "\uFFFD", "\xE4", "a\x80"}
	for c := range 256 {
		if !strings.ContainsRune("abcdefghijklmnopqrstuvwxyz0123456789-", rune(c)) {
			l = append(l, string([]byte{byte(c)}), string([]byte{'a', byte(c)}), string([]byte{byte(c), 'a'}))
		}
	}
	return l
}

// P10.1: which sizes there are.
func TestNew(t *testing.T) {
	for _, size := range []int{0, 1, 1000, 1<<28 - 1, 1 << 28} {
		f := disk(t, size)
		if f.Left() != size || f.Unsure() != 0 || f.Off() || len(f.List()) != 0 {
			t.Errorf("New(%d): Left %d, Unsure %d, Off %v", size, f.Left(), f.Unsure(), f.Off())
		}
	}
	for _, size := range []int{-1, 1<<28 + 1, math.MinInt, math.MaxInt, 1 << 32} {
		if f, e := New(size); f != nil || e != api.ErrArg {
			t.Errorf("New(%d) = %v, %d", size, f, e)
		}
	}
}

// P10.1, P10.2: names that may be, and all that is done with names that may not be.
func TestNames(t *testing.T) {
	f := disk(t, 1000)
	for _, name := range []string{"a", "z", "0", "9", "-", "a-b-0", strings.Repeat("z", 32), strings.Repeat("-", 31)} {
		want(t, name, f.Append(name, []byte("x")), api.OK)
		read(t, f, name, "x", api.OK)
	}
	for _, letter := range "abcdefghijklmnopqrstuvwxyz0123456789-" {
		g := disk(t, 1)
		want(t, string(letter), g.Append("x"+string(letter)+"y", nil), api.OK)
	}
	for _, off := range []bool{false, true} {
		if off {
			f.Stop(0)
		}
		for _, name := range wrongNames() {
			want(t, "Append", f.Append(name, nil), api.ErrArg)
			want(t, "Append of too much", f.Append(name, make([]byte, 2000)), api.ErrArg)
			want(t, "Truncate", f.Truncate(name, 0), api.ErrArg)
			want(t, "Rename from", f.Rename(name, "a"), api.ErrArg)
			want(t, "Rename to", f.Rename("a", name), api.ErrArg)
			want(t, "Rename none to", f.Rename("none", name), api.ErrArg)
			want(t, "Remove", f.Remove(name), api.ErrArg)
			read(t, f, name, "", api.ErrArg)
		}
		want(t, "Truncate to -1", f.Truncate("a", -1), api.ErrArg)
		want(t, "Truncate none to -1", f.Truncate("none", math.MinInt), api.ErrArg)
	}
	if f.Unsure() != 8 || len(f.List()) != 8 {
		t.Errorf("wrong names changed something: Unsure %d", f.Unsure())
	}
}

// P10.1: bytes are behind what a file has; the room ends, and comes back.
func TestAppend(t *testing.T) {
	f := disk(t, 10)
	want(t, "new", f.Append("a", []byte("xy")), api.OK)
	want(t, "behind", f.Append("a", []byte("z")), api.OK)
	want(t, "another", f.Append("b", []byte("123")), api.OK)
	has(t, "Append", f, "a:xyz b:123")
	want(t, "too much", f.Append("a", []byte("12345")), api.ErrFull)
	want(t, "too much, new", f.Append("c", []byte("12345")), api.ErrFull)
	has(t, "too much", f, "a:xyz b:123")
	want(t, "all", f.Append("b", []byte("4567")), api.OK)
	if f.Left() != 0 || f.Unsure() != 4 {
		t.Errorf("Left %d, Unsure %d", f.Left(), f.Unsure())
	}
	want(t, "one byte", f.Append("b", []byte("8")), api.ErrFull)
	want(t, "no byte", f.Append("b", nil), api.OK)
	want(t, "no byte, new", f.Append("c", []byte{}), api.OK)
	has(t, "full", f, "a:xyz b:1234567 c:")
	read(t, f, "c", "", api.OK)
	want(t, "room again", f.Truncate("b", 2), api.OK)
	if f.Left() != 5 {
		t.Errorf("Left %d", f.Left())
	}
	want(t, "into it", f.Append("c", []byte("vwxyz")), api.OK)
	has(t, "into it", f, "a:xyz b:12 c:vwxyz")
	want(t, "in its place", f.Rename("c", "a"), api.OK)
	if f.Left() != 3 {
		t.Errorf("Left %d", f.Left())
	}
	want(t, "gone", f.Remove("a"), api.OK)
	if f.Left() != 8 || f.Unsure() != 10 {
		t.Errorf("Left %d, Unsure %d", f.Left(), f.Unsure())
	}
	has(t, "gone", f, "b:12")
}

// P10.1: sixteen files, and no more; one that is there may still grow, and a place that is free is taken.
func TestMaxFiles(t *testing.T) {
	f := disk(t, 100)
	for i := range 16 {
		want(t, "one more", f.Append(fmt.Sprintf("f%d", i), []byte("x")), api.OK)
	}
	want(t, "the 17th", f.Append("g", nil), api.ErrFull)
	want(t, "the 17th", f.Append("g", []byte("y")), api.ErrFull)
	want(t, "there", f.Append("f15", []byte("y")), api.OK)
	want(t, "there", f.Append("f0", nil), api.OK)
	want(t, "another name", f.Rename("f0", "g"), api.OK)
	want(t, "the 17th", f.Append("f0", nil), api.ErrFull)
	want(t, "in its place", f.Rename("g", "f1"), api.OK)
	want(t, "a free place", f.Append("f0", nil), api.OK)
	want(t, "the 17th", f.Append("h", nil), api.ErrFull)
	want(t, "gone", f.Remove("f3"), api.OK)
	want(t, "a free place", f.Append("h", nil), api.OK)
	want(t, "the 17th", f.Append("f3", nil), api.ErrFull)
	if len(f.List()) != 16 {
		t.Errorf("%d files", len(f.List()))
	}
	want(t, "Crash", f.Crash(f.Unsure(), 0), api.OK)
	want(t, "the 17th", f.Append("f3", nil), api.ErrFull)
}

// P10.1: as many bytes as there may be.
func TestMaxSize(t *testing.T) {
	f := disk(t, api.MaxSize)
	b := make([]byte, api.MaxSize/2+1)
	b[len(b)-1] = 7
	want(t, "half and one", f.Append("a", b), api.OK)
	want(t, "again", f.Append("a", b), api.ErrFull)
	want(t, "again, another", f.Append("b", b), api.ErrFull)
	want(t, "the rest", f.Append("b", b[2:]), api.OK)
	want(t, "a byte", f.Append("a", b[:1]), api.ErrFull)
	if f.Left() != 0 {
		t.Errorf("Left %d", f.Left())
	}
	if got, e := f.Read("b"); e != api.OK || len(got) != len(b)-2 || got[len(got)-1] != 7 {
		t.Errorf("Read: %d bytes, %d", len(got), e)
	}
}

// P10.1: Truncate, Rename and Remove; each is an act, even if nothing changes.
func TestActs(t *testing.T) {
	f := disk(t, 100)
	for _, name := range []string{"a", "none"} {
		want(t, "Truncate none", f.Truncate(name, 0), api.ErrNone)
		want(t, "Rename none", f.Rename(name, "b"), api.ErrNone)
		want(t, "Rename none to itself", f.Rename(name, name), api.ErrNone)
		want(t, "Remove none", f.Remove(name), api.ErrNone)
		read(t, f, name, "", api.ErrNone)
	}
	f.Append("a", []byte("hello"))
	f.Append("b", []byte("there"))
	want(t, "Truncate to more", f.Truncate("a", 9), api.OK)
	want(t, "Truncate to more", f.Truncate("a", math.MaxInt), api.OK)
	want(t, "Truncate to all", f.Truncate("a", 5), api.OK)
	want(t, "Rename to itself", f.Rename("a", "a"), api.OK)
	has(t, "nothing changed", f, "a:hello b:there")
	if f.Unsure() != 6 || f.Left() != 90 {
		t.Errorf("Unsure %d, Left %d", f.Unsure(), f.Left())
	}
	want(t, "Truncate", f.Truncate("a", 4), api.OK)
	has(t, "Truncate", f, "a:hell b:there")
	want(t, "Append behind", f.Append("a", []byte("!")), api.OK)
	has(t, "Append behind", f, "a:hell! b:there")
	want(t, "Rename", f.Rename("b", "0"), api.OK)
	has(t, "Rename", f, "0:there a:hell!")
	read(t, f, "b", "", api.ErrNone)
	want(t, "Rename in its place", f.Rename("0", "a"), api.OK)
	has(t, "Rename in its place", f, "a:there")
	want(t, "Truncate to nothing", f.Truncate("a", 0), api.OK)
	has(t, "Truncate to nothing", f, "a:")
	want(t, "Remove", f.Remove("a"), api.OK)
	has(t, "Remove", f, "")
	want(t, "Remove again", f.Remove("a"), api.ErrNone)
	if f.Unsure() != 12 {
		t.Errorf("Unsure %d", f.Unsure())
	}
	want(t, "Sync", f.Sync(), api.OK)
	if f.Unsure() != 0 {
		t.Errorf("Unsure %d behind a Sync", f.Unsure())
	}
}

// P10.2: files are told by rising names, byte by byte, in whatever order they came.
func TestListOrder(t *testing.T) {
	names := []string{"b", "a", "-", "aa", "0", "ab", "a-", "a0", "z", "zz", "9", "10", "1", "b-", "-a"}
	sorted := slices.Sorted(slices.Values(names))
	for range 20 {
		f := disk(t, 100)
		for _, name := range names {
			f.Append(name, []byte(name))
		}
		for i, file := range f.List() {
			if file.Name != sorted[i] || string(file.Bytes) != sorted[i] {
				t.Fatalf("file %d is %q: %q, want %q", i, file.Name, file.Bytes, sorted[i])
			}
		}
		names = append(names[1:], names[0])
	}
}

// spoil writes over a list and over its spare room.
func spoil(b []byte) {
	b = b[:cap(b)]
	for i := range b {
		b[i] = '?'
	}
}

// R3: what was handed in is not kept, what is answered is not the disk's.
func TestMemory(t *testing.T) {
	f := disk(t, 100)
	room := []byte("abcdef......")
	f.Append("a", room[:3])
	f.Append("a", room[3:6])
	f.Append("b", room[:3])
	f.Rename("b", "c")
	if string(room) != "abcdef......" {
		t.Errorf("what was handed in is %q", room)
	}
	spoil(room)
	look := func(name string) {
		t.Helper()
		has(t, name, f, "a:abcdef c:abc")
		g := f.Fork()
		want(t, name, g.Crash(1, 2), api.OK)
		has(t, name+", crashed", g, "a:abcde")
		g = f.Fork()
		want(t, name, g.Sync(), api.OK)
		has(t, name+", synced", g, "a:abcdef c:abc")
		want(t, name, g.Crash(0, 0), api.OK)
		has(t, name+", synced and crashed", g, "a:abcdef c:abc")
	}
	look("the list handed in spoilt")
	b, _ := f.Read("a")
	spoil(b)
	look("what Read answers spoilt")
	l := f.List()
	for _, file := range l {
		spoil(file.Bytes)
	}
	look("what List answers spoilt")
	l = l[:cap(l)]
	for i := range l {
		l[i] = api.File{Name: "x"}
	}
	look("its list spoilt")

	// Behind a Sync and a cut, what is added goes into no memory but the disk's own.
	f.Sync()
	before, _ := f.Read("a")
	f.Truncate("a", 2)
	f.Append("a", []byte("XYZ"))
	if string(before) != "abcdef" {
		t.Errorf("what was read became %q", before)
	}
	want(t, "Crash", f.Crash(0, 0), api.OK)
	has(t, "Crash", f, "a:abcdef c:abc")
}

// R3: names are kept, but not the memory that they were handed in with.
func TestNameMemory(t *testing.T) {
	f := disk(t, 10)
	room := make([]byte, 8)
	// name is one whose memory is written over when the next one is made.
	name := func(text string) string {
		copy(room, text)
		return unsafe.String(&room[0], len(text))
	}
	f.Append(name("one"), []byte("123"))
	f.Append(name("two"), []byte("45"))
	f.Rename("two", name("six"))
	f.Append("six", []byte("6"))
	f.Truncate(name("one"), 2)
	f.Append("old", nil)
	f.Remove(name("old"))
	f.Rename(name("six"), "ten")
	name("xxxxxxxx")
	has(t, "names", f, "one:12 ten:456")
	g := f.Fork()
	want(t, "Crash", g.Crash(4, 1), api.OK)
	has(t, "names behind a crash", g, "one:123 six:456")
	want(t, "Sync", f.Sync(), api.OK)
	want(t, "Crash", f.Crash(0, 0), api.OK)
	has(t, "names that are sure", f, "one:12 ten:456")
}

// P10.3: of a nil disk, and of one that no call made.
func TestNil(t *testing.T) {
	for name, f := range map[string]*Files{"nil": nil, "unmade": {}} {
		for range 2 {
			for _, file := range []string{"a", "", "A"} {
				want(t, name, f.Append(file, []byte("x")), api.ErrClosed)
				want(t, name, f.Truncate(file, -1), api.ErrClosed)
				want(t, name, f.Rename(file, file), api.ErrClosed)
				want(t, name, f.Remove(file), api.ErrClosed)
				read(t, f, file, "", api.ErrClosed)
			}
			want(t, name, f.Sync(), api.ErrClosed)
			want(t, name, f.Crash(0, 0), api.ErrClosed)
			want(t, name, f.Crash(-1, -1), api.ErrClosed)
			f.Stop(1)
			f.Stop(0)
			if len(f.List()) != 0 || f.Off() || f.Unsure() != 0 || f.Left() != 0 || f.Fork() != nil {
				t.Errorf("%s: List %v, Off %v, Unsure %d, Left %d, Fork %v", name, f.List(), f.Off(), f.Unsure(), f.Left(), f.Fork())
			}
		}
	}
}

package files

import (
	"fmt"
	"math"
	"math/rand"
	"strings"
	"testing"

	"tollhouse/api"
)

// P10.3: the document's example.
func TestExample(t *testing.T) {
	for _, c := range []struct {
		acts, bytes int
		files       string
	}{{0, 0, ""}, {0, 1, "a:x"}, {0, 2, "a:xy"}, {0, 9, "a:xy"}, {1, 0, "a:xy"}, {1, 1, "a:xyz"}, {1, 9, "a:xyz"}, {2, 0, "a:xyz"}, {2, 9, "a:xyz"}} {
		f := disk(t, 10)
		f.Append("a", []byte("xy"))
		f.Append("a", []byte("z"))
		want(t, "Crash", f.Crash(c.acts, c.bytes), api.OK)
		has(t, fmt.Sprint("Crash ", c.acts, c.bytes), f, c.files)
		if f.Unsure() != 0 {
			t.Errorf("Unsure %d behind a crash", f.Unsure())
		}
		want(t, "Crash again", f.Crash(0, 9), api.OK)
		has(t, "Crash again", f, c.files)
	}
}

// P10.3: a crash that may not be does nothing, even if the disk is off.
func TestCrashArguments(t *testing.T) {
	f := disk(t, 10)
	f.Append("a", []byte("x"))
	f.Sync()
	f.Append("a", []byte("y"))
	f.Rename("a", "b")
	for _, off := range []bool{false, true} {
		if off {
			f.Stop(0)
		}
		for _, c := range [][2]int{{-1, 0}, {3, 0}, {math.MinInt, 0}, {math.MaxInt, 0}, {0, -1}, {2, -1}, {2, math.MinInt}, {-1, -1}, {3, 1}} {
			want(t, fmt.Sprint("Crash ", c), f.Crash(c[0], c[1]), api.ErrArg)
			if f.Unsure() != 2 || f.Off() != off {
				t.Errorf("behind it: Unsure %d, Off %v", f.Unsure(), f.Off())
			}
			has(t, "behind it", f, "b:xy")
		}
	}
	want(t, "Crash", f.Crash(0, math.MaxInt), api.OK)
	has(t, "behind the right one", f, "a:xy")
}

// P10.3: the next act is cut within if it is an Append, and not done at all if it is another one; no byte makes no file.
func TestCrashNext(t *testing.T) {
	begin := func() *Files {
		f := disk(t, 100)
		f.Append("a", []byte("hello"))
		f.Append("b", []byte("there"))
		f.Sync()
		return f
	}
	for _, c := range []struct {
		name  string
		do    func(f *Files) api.Errno
		files [3]string // behind no, one and many bytes of it
	}{
		{"Append", func(f *Files) api.Errno { return f.Append("a", []byte("123")) }, [3]string{"a:hello b:there", "a:hello1 b:there", "a:hello123 b:there"}},
		{"Append, new", func(f *Files) api.Errno { return f.Append("c", []byte("123")) }, [3]string{"a:hello b:there", "a:hello b:there c:1", "a:hello b:there c:123"}},
		{"Append of nothing", func(f *Files) api.Errno { return f.Append("a", nil) }, [3]string{"a:hello b:there", "a:hello b:there", "a:hello b:there"}},
		{"Append of nothing, new", func(f *Files) api.Errno { return f.Append("c", nil) }, [3]string{"a:hello b:there", "a:hello b:there", "a:hello b:there"}},
		{"Truncate", func(f *Files) api.Errno { return f.Truncate("a", 1) }, [3]string{"a:hello b:there", "a:hello b:there", "a:hello b:there"}},
		{"Rename", func(f *Files) api.Errno { return f.Rename("a", "b") }, [3]string{"a:hello b:there", "a:hello b:there", "a:hello b:there"}},
		{"Remove", func(f *Files) api.Errno { return f.Remove("a") }, [3]string{"a:hello b:there", "a:hello b:there", "a:hello b:there"}},
	} {
		for i, bytes := range []int{0, 1, 1000} {
			f := begin()
			want(t, c.name, c.do(f), api.OK)
			want(t, c.name, f.Crash(0, bytes), api.OK)
			has(t, c.name, f, c.files[i])
		}
	}
	f := begin()
	want(t, "Append of nothing", f.Append("c", nil), api.OK)
	want(t, "Crash", f.Crash(1, 0), api.OK)
	has(t, "a file of no byte that lasts", f, "a:hello b:there c:")
	// A file that was taken away, or called otherwise, is new again.
	f.Remove("a")
	f.Append("a", []byte("new"))
	g := f.Fork()
	want(t, "Crash", f.Crash(1, 0), api.OK)
	has(t, "new by no byte", f, "b:there c:")
	want(t, "Crash", g.Crash(1, 1), api.OK)
	has(t, "new by a byte", g, "a:n b:there c:")
}

// P10.3: what a crash left is sure, the room is that of what is left, and the disk goes on from there.
func TestCrashAndOn(t *testing.T) {
	f := disk(t, 10)
	f.Append("a", []byte("12345"))
	f.Append("b", []byte("67890"))
	want(t, "Crash", f.Crash(1, 2), api.OK)
	if f.Left() != 3 || f.Unsure() != 0 {
		t.Errorf("Left %d, Unsure %d", f.Left(), f.Unsure())
	}
	want(t, "too much", f.Append("a", []byte("abcd")), api.ErrFull)
	want(t, "all", f.Append("a", []byte("abc")), api.OK)
	has(t, "on", f, "a:12345abc b:67")
	want(t, "Crash", f.Crash(0, 2), api.OK)
	has(t, "again", f, "a:12345ab b:67")
	f.Truncate("a", 1)
	f.Append("a", []byte("x"))
	want(t, "Crash", f.Crash(1, 0), api.OK)
	has(t, "the cut alone", f, "a:1 b:67")
	f.Truncate("a", 0)
	f.Append("a", []byte("y"))
	want(t, "Crash", f.Crash(0, 1), api.OK)
	has(t, "nothing of it", f, "a:1 b:67")
}

// P10.4: behind a Sync a crash changes nothing.
func TestSyncLasts(t *testing.T) {
	f := disk(t, 100)
	f.Append("a", []byte("hello"))
	f.Append("b", []byte("there"))
	f.Rename("b", "c")
	f.Truncate("a", 4)
	want(t, "Sync", f.Sync(), api.OK)
	for _, bytes := range []int{0, 1, 100} {
		want(t, "Crash", f.Crash(0, bytes), api.OK)
		has(t, "behind a Sync", f, "a:hell c:there")
		want(t, "Crash", f.Crash(1, bytes), api.ErrArg)
	}
}

// off asks whether the disk is off.
func off(t *testing.T, name string, f *Files, want bool) {
	t.Helper()
	if f.Off() != want {
		t.Errorf("%s: Off() = %v", name, f.Off())
	}
}

// P10.1 to P10.3: of a disk that is off nothing but what the document says is answered.
func TestOff(t *testing.T) {
	f := disk(t, 10)
	f.Append("a", []byte("xy"))
	f.Sync()
	f.Append("b", []byte("z"))
	off(t, "on", f, false)
	f.Stop(0)
	off(t, "Stop(0)", f, true)
	want(t, "Append", f.Append("a", nil), api.ErrOff)
	want(t, "Append of too much", f.Append("a", make([]byte, 20)), api.ErrOff)
	want(t, "Truncate", f.Truncate("a", 0), api.ErrOff)
	want(t, "Truncate none", f.Truncate("none", 0), api.ErrOff)
	want(t, "Rename", f.Rename("a", "b"), api.ErrOff)
	want(t, "Rename none", f.Rename("none", "b"), api.ErrOff)
	want(t, "Remove", f.Remove("a"), api.ErrOff)
	want(t, "Remove none", f.Remove("none"), api.ErrOff)
	want(t, "Sync", f.Sync(), api.ErrOff)
	read(t, f, "a", "", api.ErrOff)
	read(t, f, "none", "", api.ErrOff)
	has(t, "off", f, "a:xy b:z")
	if f.Unsure() != 1 || f.Left() != 7 {
		t.Errorf("Unsure %d, Left %d", f.Unsure(), f.Left())
	}
	for _, n := range []int{-1, 0, 1, 100, math.MinInt, math.MaxInt} {
		f.Stop(n)
		off(t, "Stop of a disk that is off", f, true)
	}
	g := f.Fork()
	off(t, "its fork", g, true)
	want(t, "Crash", f.Crash(1, 0), api.OK)
	off(t, "behind a crash", f, false)
	off(t, "its fork", g, true)
	for range 200 {
		want(t, "Sync", f.Sync(), api.OK)
	}
	read(t, f, "b", "z", api.OK)
}

// P10.3: acts and Syncs that are OK are counted, and no other calls.
func TestStop(t *testing.T) {
	for n := range 12 {
		f := disk(t, 10)
		f.Append("a", []byte("x"))
		for i := range 12 {
			f.Append(fmt.Sprint("f", i), nil)
		}
		f.Stop(n)
		for i := range n {
			off(t, "within", f, false)
			want(t, "full", f.Append("a", make([]byte, 11)), api.ErrFull)
			want(t, "none", f.Remove("none"), api.ErrNone)
			want(t, "a wrong name", f.Remove("A"), api.ErrArg)
			want(t, "a wrong crash", f.Crash(-1, 0), api.ErrArg)
			f.Read("a")
			f.List()
			f.Fork().Sync()
			off(t, "still", f, false)
			switch i % 5 {
			case 0:
				want(t, "Append", f.Append("a", []byte("y")), api.OK)
			case 1:
				want(t, "Sync", f.Sync(), api.OK)
			case 2:
				want(t, "Rename", f.Rename("a", "a"), api.OK)
			case 3:
				want(t, "Truncate", f.Truncate("a", 1), api.OK)
			case 4:
				want(t, "Remove", f.Remove(fmt.Sprint("f", i)), api.OK)
			}
		}
		off(t, fmt.Sprint("behind ", n), f, true)
		want(t, "behind", f.Append("a", nil), api.ErrOff)
	}
}

// P10.3: a later Stop counts anew; one below 0, and a crash, take it away.
func TestStopAnew(t *testing.T) {
	many := func(f *Files) {
		t.Helper()
		for range 50 {
			want(t, "Sync", f.Sync(), api.OK)
		}
		off(t, "on", f, false)
	}
	for _, n := range []int{-1, -2, -1000, math.MinInt} {
		f := disk(t, 10)
		f.Stop(n)
		many(f)
		f.Stop(1)
		f.Stop(n)
		many(f)
	}
	f := disk(t, 10)
	f.Stop(2)
	f.Sync()
	f.Stop(2)
	want(t, "first", f.Sync(), api.OK)
	off(t, "first", f, false)
	want(t, "second", f.Sync(), api.OK)
	off(t, "second", f, true)
	f.Crash(0, 0)
	f.Stop(1)
	f.Crash(0, 0)
	many(f)
	f.Stop(math.MaxInt)
	many(f)
	f.Stop(1)
	g := f.Fork()
	want(t, "the last one", f.Sync(), api.OK)
	off(t, "it is off", f, true)
	off(t, "the fork is on", g, false)
	want(t, "the last one", g.Append("a", nil), api.OK)
	off(t, "the fork is off", g, true)
}

// P10.3: a fork is the same, and goes its own way.
func TestFork(t *testing.T) {
	f := disk(t, 20)
	f.Append("a", []byte("12"))
	f.Sync()
	f.Append("a", []byte("34"))
	f.Append("b", []byte("56"))
	g := f.Fork()
	has(t, "the same", g, "a:1234 b:56")
	if g.Unsure() != 2 || g.Left() != 14 {
		t.Errorf("Unsure %d, Left %d", g.Unsure(), g.Left())
	}
	f.Append("a", []byte("f"))
	g.Append("a", []byte("g"))
	f.Remove("b")
	has(t, "its own", f, "a:1234f")
	has(t, "the other's", g, "a:1234g b:56")
	h := f.Fork()
	want(t, "Crash", f.Crash(2, 1), api.OK)
	want(t, "Crash", g.Crash(3, 0), api.OK)
	want(t, "Crash", h.Crash(0, 1), api.OK)
	has(t, "its own", f, "a:1234f b:56")
	has(t, "the other's", g, "a:1234g b:56")
	has(t, "the third one's", h, "a:123")
}

// P10.3: whatever room there is behind the unsure acts, forks do not write over one another's.
func TestForkActs(t *testing.T) {
	for n := range 20 {
		f := disk(t, 100)
		for range n {
			f.Append("a", []byte("x"))
		}
		g := f.Fork()
		f.Append("a", []byte("f"))
		g.Append("a", []byte("g"))
		want(t, "Crash", f.Crash(n+1, 0), api.OK)
		want(t, "Crash", g.Crash(n+1, 0), api.OK)
		has(t, "its own", f, "a:"+strings.Repeat("x", n)+"f")
		has(t, "the other's", g, "a:"+strings.Repeat("x", n)+"g")
	}
}

// anyAct does one of all things to both disks.
func anyAct(random *rand.Rand, f *Files, p *plain) (string, api.Errno, api.Errno) {
	names := []string{"a", "b", "c", "log", "log-new", "", "B"}
	name, other := names[random.Intn(len(names))], names[random.Intn(len(names))]
	if random.Intn(8) == 0 {
		name = fmt.Sprint("f", random.Intn(20))
	}
	n := random.Intn(12) - 1
	switch random.Intn(16) {
	case 0, 1:
		return fmt.Sprintf("Truncate(%q, %d)", name, n), f.Truncate(name, n), p.Truncate(name, n)
	case 2, 3:
		return fmt.Sprintf("Rename(%q, %q)", name, other), f.Rename(name, other), p.Rename(name, other)
	case 4:
		return fmt.Sprintf("Remove(%q)", name), f.Remove(name), p.Remove(name)
	case 5:
		return "Sync()", f.Sync(), p.Sync()
	case 6:
		if random.Intn(3) > 0 {
			return "nothing", api.OK, api.OK
		}
		f.Stop(n)
		p.Stop(n)
		return fmt.Sprintf("Stop(%d)", n), api.OK, api.OK
	case 7:
		acts := random.Intn(f.Unsure()+3) - 1
		return fmt.Sprintf("Crash(%d, %d)", acts, n), f.Crash(acts, n), p.Crash(acts, n)
	}
	b := strings.Repeat(string(rune('a'+random.Intn(26))), max(0, n))
	return fmt.Sprintf("Append(%q, %q)", name, b), f.Append(name, []byte(b)), p.Append(name, b)
}

// P10.1 to P10.4: whatever is done, one thing behind the other, the disk tells what the document's words make of it; and so does each crash from there.
func TestAnything(t *testing.T) {
	random := rand.New(rand.NewSource(10))
	for range 300 {
		size := random.Intn(120)
		f, p := disk(t, size), newPlain(size)
		story := ""
		for range 60 {
			name, got, e := anyAct(random, f, p)
			story += "\n" + name
			if got != e {
				t.Fatalf("%s\n = %d, want %d", story, got, e)
			}
			same(t, story, f, p)
			if random.Intn(10) > 0 {
				continue
			}
			for acts := range f.Unsure() + 1 {
				for bytes := range 12 {
					g, q := f.Fork(), p.Fork()
					want(t, story, g.Crash(acts, bytes), q.Crash(acts, bytes))
					same(t, fmt.Sprint(story, "\nCrash ", acts, " ", bytes), g, q)
				}
			}
			same(t, story+"\nits forks crashed", f, p)
		}
	}
}

// Many small acts, with a Sync behind each, cost what they have and not what all files have.
func TestManyActs(t *testing.T) {
	f := disk(t, 1<<24)
	b := make([]byte, 100)
	for range 100000 {
		if f.Append("a", b) != api.OK || f.Sync() != api.OK {
			t.Fatal("refused")
		}
	}
	if f.Left() != 1<<24-10000000 {
		t.Errorf("Left %d", f.Left())
	}
}

package log

import (
	"bytes"
	"fmt"
	"slices"
	"strings"
	"testing"

	"tollhouse/api"
	"tollhouse/files"
)

// disk is an empty one.
func disk(t *testing.T, size int) *files.Files {
	t.Helper()
	f, e := files.New(size)
	if e != api.OK {
		t.Fatal(e)
	}
	return f
}

// want asks for an answer.
func want(t *testing.T, name string, got, e api.Errno) {
	t.Helper()
	if got != e {
		t.Errorf("%s: %d, want %d", name, got, e)
	}
}

// open is a log that must have these payloads.
func open(t *testing.T, f *files.Files, name string, payloads ...string) *Log {
	t.Helper()
	l, got, e := Open(f, name)
	if l == nil || e != api.OK || !slices.Equal(texts(got), payloads) {
		t.Fatalf("Open(%q) = %q, %d, want %q", name, got, e, payloads)
	}
	told(t, name, l, payloads...)
	return l
}

// told asks for what a log of these payloads tells.
func told(t *testing.T, name string, l *Log, payloads ...string) {
	t.Helper()
	if size := len(plainLog(payloads...)); l.Len() != len(payloads) || l.Size() != size {
		t.Errorf("%s: Len %d, Size %d, want %d, %d", name, l.Len(), l.Size(), len(payloads), size)
	}
}

// has asks for all files and their bytes: name, bytes, name, bytes, ..
func has(t *testing.T, name string, f *files.Files, files ...string) {
	t.Helper()
	var got []string
	for _, file := range f.List() {
		got = append(got, file.Name, string(file.Bytes))
	}
	if !slices.Equal(got, files) {
		t.Errorf("%s: the files are %q, want %q", name, got, files)
	}
}

// useless asks for ErrOff of all calls on a log, whatever they are given, and for its records to be told as before.
func useless(t *testing.T, name string, l *Log, payloads ...string) {
	t.Helper()
	for range 2 {
		// These first: the disk is not asked by them.
		want(t, name+": Append of too much", l.Append(make([]byte, 65537)), api.ErrOff)
		want(t, name+": Rewrite of too much", l.Rewrite([][]byte{make([]byte, 65537)}), api.ErrOff)
		want(t, name+": Append", l.Append([]byte("x")), api.ErrOff)
		want(t, name+": Sync", l.Sync(), api.ErrOff)
		want(t, name+": Rewrite", l.Rewrite([][]byte{[]byte("x")}), api.ErrOff)
		told(t, name, l, payloads...)
	}
}

// P11.2: what Open refuses, in its order.
func TestOpenArguments(t *testing.T) {
	f := disk(t, 1000)
	wrong := []string{"", "A", "a b", "a.log", "\u00E4", "a\x00", strings.Repeat("a", 29), strings.Repeat("a", 32), strings.Repeat("a", 33), strings.Repeat("-", 1000)}
	refused := func(f *files.Files, name string, e api.Errno) {
		t.Helper()
		if l, p, got := Open(f, name); l != nil || len(p) != 0 || got != e {
			t.Errorf("Open(%q) = %v, %q, %d, want %d", name, l, p, got, e)
		}
	}
	for _, name := range wrong {
		refused(f, name, api.ErrArg)
		refused(nil, name, api.ErrArg)
	}
	refused(nil, "a", api.ErrArg)
	has(t, "refused", f)
	for _, name := range []string{"a", "-", "0", "events-2", strings.Repeat("z", 28)} {
		open(t, f, name)
	}
	has(t, "opened", f)
	f.Stop(0)
	for _, name := range wrong {
		refused(f, name, api.ErrArg)
	}
	refused(f, "a", api.ErrOff)
	refused(f, strings.Repeat("z", 28), api.ErrOff)
}

// P11.2: a log that needs no mending is opened without an act and without a Sync.
func TestOpenWhole(t *testing.T) {
	f := disk(t, 1000)
	f.Append("a", []byte(plainLog("one", "two")))
	f.Append("empty", nil)
	f.Append("b-new", []byte("of another log"))
	f.Stop(1)
	open(t, f, "a", "one", "two")
	open(t, f, "empty")
	open(t, f, "none")
	if f.Off() || f.Unsure() != 3 {
		t.Errorf("Off %v, Unsure %d", f.Off(), f.Unsure())
	}
	has(t, "opened", f, "a", plainLog("one", "two"), "b-new", "of another log", "empty", "")
}

// P11.2: what a crash left is taken away, one thing behind the other, and that is sure then; if the power goes off within, the log is not opened.
func TestOpenMends(t *testing.T) {
	whole := plainLog("one", "two")
	torn := whole + plainRecord(2, "three")[:14]
	for _, c := range []struct {
		name        string
		file, fresh string // fresh: the file a-new; "none", if there is none
		steps       int
	}{
		{"torn", torn, "none", 2},
		{"a new one", whole, "x", 2},
		{"an empty new one", whole, "", 2},
		{"both", torn, "x", 3},
	} {
		for stop := range c.steps + 2 {
			name := fmt.Sprint(c.name, ", power for ", stop)
			f := disk(t, 1000)
			f.Append("a", []byte(c.file))
			if c.fresh != "none" {
				f.Append("a-new", []byte(c.fresh))
			}
			f.Append("b-new", []byte("y"))
			f.Sync()
			f.Stop(stop)
			if stop >= c.steps {
				l := open(t, f, "a", "one", "two")
				has(t, name, f, "a", whole, "b-new", "y")
				if f.Unsure() != 0 || f.Off() != (stop == c.steps) {
					t.Errorf("%s: Unsure %d, Off %v", name, f.Unsure(), f.Off())
				}
				f.Crash(0, 0)
				has(t, name, f, "a", whole, "b-new", "y")
				want(t, name, l.Append([]byte("four")), api.OK)
				open(t, f, "a", "one", "two", "four")
				continue
			}
			if l, p, e := Open(f, "a"); l != nil || len(p) != 0 || e != api.ErrOff || f.Unsure() != stop {
				t.Errorf("%s: Open = %v, %q, %d; Unsure %d", name, l, p, e, f.Unsure())
			}
			f.Crash(f.Unsure(), 0)
			open(t, f, "a", "one", "two")
			has(t, name, f, "a", whole, "b-new", "y")
		}
	}
}

// P11.2: the leftover is removed ahead of the cut.
func TestOpenOrder(t *testing.T) {
	f := disk(t, 1000)
	f.Append("a", []byte("torn"))
	f.Append("a-new", []byte("x"))
	f.Sync()
	f.Stop(1)
	Open(f, "a")
	has(t, "one step", f, "a", "torn")
	f.Crash(1, 0)
	f.Stop(1)
	Open(f, "a")
	has(t, "the next one", f, "a", "")
}

// P11.2, P11.3: records are behind one another, and are sure behind a Sync.
func TestAppend(t *testing.T) {
	f := disk(t, 1000)
	l := open(t, f, "a")
	for i, payloads := range [][]string{{"one"}, {"one", ""}, {"one", "", "three"}} {
		want(t, "Append", l.Append([]byte(payloads[i])), api.OK)
		told(t, "Append", l, payloads...)
		has(t, "Append", f, "a", plainLog(payloads...))
		if f.Unsure() != i+1 {
			t.Errorf("Unsure %d", f.Unsure())
		}
	}
	f.Append("b", []byte("x"))
	want(t, "Sync", l.Sync(), api.OK)
	told(t, "Sync", l, "one", "", "three")
	if f.Unsure() != 0 {
		t.Error("Sync: it is not the disk's")
	}
	l = open(t, f, "a", "one", "", "three")
	want(t, "Append", l.Append([]byte("4")), api.OK)
	has(t, "Append", f, "a", plainLog("one", "", "three", "4"), "b", "x")
	open(t, f, "a", "one", "", "three", "4")
	f.Crash(0, 12)
	open(t, f, "a", "one", "", "three")
}

// P11.2: the longest payload; one that is too long, and one that the disk has no room for, change nothing.
func TestAppendRefused(t *testing.T) {
	f := disk(t, 13+12+65536+14)
	l := open(t, f, "a")
	long := make([]byte, 65537)
	want(t, "Append", l.Append([]byte("x")), api.OK)
	want(t, "too long", l.Append(long), api.ErrLong)
	want(t, "the longest", l.Append(long[:65536]), api.OK)
	told(t, "the longest", l, "x", string(long[:65536]))
	want(t, "too long for all", l.Append(long), api.ErrLong)
	want(t, "too much", l.Append([]byte("abc")), api.ErrFull)
	told(t, "refused", l, "x", string(long[:65536]))
	want(t, "as much as there is", l.Append([]byte("ab")), api.OK)
	want(t, "no room at all", l.Append(nil), api.ErrFull)
	want(t, "Sync", l.Sync(), api.OK)
	open(t, f, "a", "x", string(long[:65536]), "ab")

	f = disk(t, 1000)
	for i := range 16 {
		f.Append(fmt.Sprint("f", i), nil)
	}
	l = open(t, f, "a")
	want(t, "too many files", l.Append([]byte("x")), api.ErrFull)
	f.Remove("f3")
	want(t, "room again", l.Append([]byte("x")), api.OK)
	told(t, "room again", l, "x")
}

// P11.3: a log whose disk did not answer once is of no more use, even if the disk is on again.
func TestOff(t *testing.T) {
	for _, c := range []struct {
		name string
		do   func(l *Log) api.Errno
	}{
		{"Append", func(l *Log) api.Errno { return l.Append([]byte("x")) }},
		{"Sync", func(l *Log) api.Errno { return l.Sync() }},
		{"Rewrite", func(l *Log) api.Errno { return l.Rewrite(nil) }},
	} {
		f := disk(t, 1000)
		l := open(t, f, "a")
		l.Append([]byte("one"))
		l.Append([]byte("two"))
		f.Stop(0)
		want(t, c.name, l.Append(make([]byte, 65537)), api.ErrLong)
		want(t, c.name, l.Rewrite([][]byte{make([]byte, 65537)}), api.ErrLong)
		want(t, c.name, c.do(l), api.ErrOff)
		useless(t, c.name, l, "one", "two")
		f.Crash(2, 0)
		useless(t, c.name+", on again", l, "one", "two")
		has(t, c.name, f, "a", plainLog("one", "two"))
		l = open(t, f, "a", "one", "two")
		want(t, "another one", l.Append([]byte("three")), api.OK)
	}
}

// P11.3: a disk that is off without being asked, and on again, is no fault.
func TestOffUnseen(t *testing.T) {
	f := disk(t, 1000)
	l := open(t, f, "a")
	want(t, "Append", l.Append([]byte("one")), api.OK)
	f.Stop(0)
	told(t, "off", l, "one")
	f.Crash(1, 0)
	want(t, "Append", l.Append([]byte("two")), api.OK)
	want(t, "Sync", l.Sync(), api.OK)
	open(t, f, "a", "one", "two")
}

// P11.3: records in the place of others.
func TestRewrite(t *testing.T) {
	for _, fresh := range [][]string{nil, {""}, {"new"}, {"new", "", "newer"}, {"one", "two"}} {
		f := disk(t, 1000)
		l := open(t, f, "a")
		rewrite := func(payloads []string) {
			t.Helper()
			var in [][]byte
			for _, s := range payloads {
				in = append(in, []byte(s))
			}
			want(t, "Rewrite", l.Rewrite(in), api.OK)
			told(t, "Rewrite", l, payloads...)
			has(t, "Rewrite", f, "a", plainLog(payloads...))
			if f.Unsure() != 0 {
				t.Error("Rewrite: not sure")
			}
		}
		rewrite(fresh)
		l.Append([]byte("one"))
		l.Append([]byte("two"))
		open(t, f, "a", append(slices.Clone(fresh), "one", "two")...)
		rewrite(fresh)
		want(t, "Append", l.Append([]byte("more")), api.OK)
		open(t, f, "a", append(slices.Clone(fresh), "more")...)
		rewrite([]string{"all"})
		rewrite(fresh)
	}
	f := disk(t, 1<<20)
	l := open(t, f, "a")
	long := bytes.Repeat([]byte{1}, 65536)
	want(t, "the longest", l.Rewrite([][]byte{long, nil, long}), api.OK)
	open(t, f, "a", string(long), "", string(long))
}

// P11.3: payloads that may not be change nothing, and nothing is asked of the disk.
func TestRewriteLong(t *testing.T) {
	f := disk(t, 1000)
	l := open(t, f, "a")
	l.Append([]byte("one"))
	f.Append("a-new", []byte("x"))
	long := make([]byte, 65537)
	for _, in := range [][][]byte{{long}, {nil, long}, {[]byte("x"), nil, long, nil}} {
		want(t, "too long", l.Rewrite(in), api.ErrLong)
		told(t, "too long", l, "one")
		has(t, "too long", f, "a", plainLog("one"), "a-new", "x")
	}
	f.Stop(0)
	want(t, "off and too long", l.Rewrite([][]byte{long}), api.ErrLong)
	f.Crash(2, 0)
	want(t, "of use", l.Append([]byte("two")), api.OK)
	want(t, "of use", l.Rewrite([][]byte{[]byte("all")}), api.OK)
	has(t, "of use", f, "a", plainLog("all"))
}

// P11.3: what a Rewrite does, one thing behind the other: cut off behind each, it is refused, and the log is of no more use.
func TestRewriteSteps(t *testing.T) {
	old, fresh := plainLog("one", "two"), plainLog("new", "", "newer")
	for _, leftover := range []bool{false, true} {
		steps := [][]string{
			{"a", old},
			{"a", old, "a-new", fresh},
			{"a", old, "a-new", fresh}, // it is sure then
			{"a", fresh},
			{"a", fresh}, // that too
		}
		sure := []bool{true, false, true, false, true}
		if leftover {
			steps = append([][]string{{"a", old, "a-new", "left"}}, steps...)
			sure = append([]bool{true, false, false}, sure[2:]...)
		}
		for stop := range len(steps) + 2 {
			name := fmt.Sprint("leftover ", leftover, ", power for ", stop)
			f := disk(t, 1000)
			l := open(t, f, "a")
			l.Append([]byte("one"))
			l.Append([]byte("two"))
			if leftover {
				f.Append("a-new", []byte("left"))
			}
			f.Sync()
			f.Stop(stop)
			e := l.Rewrite([][]byte{[]byte("new"), nil, []byte("newer")})
			has(t, name, f, steps[min(stop, len(steps)-1)]...)
			if stop >= len(steps)-1 {
				want(t, name, e, api.OK)
				told(t, name, l, "new", "", "newer")
				continue
			}
			want(t, name, e, api.ErrOff)
			if sure[stop] != (f.Unsure() == 0) {
				t.Errorf("%s: Unsure %d", name, f.Unsure())
			}
			useless(t, name, l, "one", "two")
			f.Crash(f.Unsure(), 0)
			useless(t, name+", on again", l, "one", "two")
		}
	}
}

// P11.3: a disk that has no room for the new file refuses, and the log is of no more use; its file is as it was.
func TestRewriteFull(t *testing.T) {
	f := disk(t, 50)
	l := open(t, f, "a")
	l.Append([]byte("0123456789"))
	want(t, "no room", l.Rewrite([][]byte{make([]byte, 17)}), api.ErrFull)
	useless(t, "no room", l, "0123456789")
	has(t, "no room", f, "a", plainLog("0123456789"))
	l = open(t, f, "a", "0123456789")
	want(t, "room", l.Rewrite([][]byte{make([]byte, 16)}), api.OK)

	f = disk(t, 1000)
	l = open(t, f, "a")
	l.Append([]byte("one"))
	for i := range 15 {
		f.Append(fmt.Sprint("f", i), nil)
	}
	want(t, "too many files", l.Rewrite(nil), api.ErrFull)
	useless(t, "too many files", l, "one")
	f.Remove("f0")
	useless(t, "room again", l, "one")
	l = open(t, f, "a", "one")
	want(t, "room", l.Rewrite(nil), api.OK)
}

// P11.3: an old leftover makes room, as it is removed ahead.
func TestRewriteLeftover(t *testing.T) {
	f := disk(t, 50)
	l := open(t, f, "a")
	l.Append([]byte("0123456789"))
	f.Append("a-new", make([]byte, 28))
	want(t, "room", l.Rewrite([][]byte{[]byte("0123456789abcdef")}), api.OK)
	has(t, "room", f, "a", plainLog("0123456789abcdef"))
}

// P11.3: of a nil log, and of one that no call made.
func TestNil(t *testing.T) {
	for _, l := range []*Log{nil, {}} {
		long := make([]byte, 65537)
		want(t, "Append", l.Append([]byte("x")), api.ErrClosed)
		want(t, "Append", l.Append(long), api.ErrClosed)
		want(t, "Sync", l.Sync(), api.ErrClosed)
		want(t, "Rewrite", l.Rewrite(nil), api.ErrClosed)
		want(t, "Rewrite", l.Rewrite([][]byte{long}), api.ErrClosed)
		if l.Len() != 0 || l.Size() != 0 {
			t.Errorf("Len %d, Size %d", l.Len(), l.Size())
		}
	}
}

// R3: nothing that is handed in is kept or changed, the name neither; what Open answers is its own.
func TestMemory(t *testing.T) {
	f := disk(t, 1000)
	name := []byte("log")
	l := open(t, f, textOver(name))
	copy(name, "xyz")
	in := []byte("one and behind")
	want(t, "Append", l.Append(in[:3]), api.OK)
	if string(in) != "one and behind" {
		t.Errorf("Append changed %q", in)
	}
	copy(in, "!!!")
	has(t, "Append", f, "log", plainLog("one"))
	_, p, _ := Open(f, "log")
	_, q, _ := Open(f, "log")
	p[0][0] = '?'
	if string(q[0]) != "one" {
		t.Error("two answers share memory")
	}
	list := [][]byte{[]byte("new"), []byte("newer"), []byte("behind")}
	want(t, "Rewrite", l.Rewrite(list[:2]), api.OK)
	if !slices.Equal(texts(list), []string{"new", "newer", "behind"}) {
		t.Errorf("Rewrite changed %q", list)
	}
	list[0][0] = '!'
	has(t, "Rewrite", f, "log", plainLog("new", "newer"))
}

package kv

import (
	"fmt"
	"maps"
	"slices"
	"strings"
	"testing"
	"unsafe"

	"tollhouse/api"
	"tollhouse/files"
	"tollhouse/log"
)

// disk is an empty one.
func disk(t *testing.T, size int) *files.Files {
	t.Helper()
	f, e := files.New(size)
	if e != api.OK {
		t.Fatal(e)
	}
	return f
}

// want asks for an answer.
func want(t *testing.T, name string, got, e api.Errno) {
	t.Helper()
	if got != e {
		t.Errorf("%s: %d, want %d", name, got, e)
	}
}

// open is a store that must open.
func open(t *testing.T, f *files.Files, name string) *Store {
	t.Helper()
	s, e := Open(f, name)
	if s == nil || e != api.OK {
		t.Fatalf("Open(%q) = %v, %d", name, s, e)
	}
	return s
}

// commit must be OK.
func commit(t *testing.T, s *Store, l ...api.Put) {
	t.Helper()
	want(t, "Commit", s.Commit(l), api.OK)
}

// logged is the batches of a log that is not opened for good.
func logged(t *testing.T, f *files.Files, name string) []string {
	t.Helper()
	_, l, e := log.Open(f.Fork(), name)
	if e != api.OK {
		t.Fatal(e)
	}
	var out []string
	for _, b := range l {
		out = append(out, string(b))
	}
	return out
}

// told is what a range tells: key, value, key, value, ..
func told(s *Store, from, to string) []string {
	l := []string{}
	for key, value := range s.Range(from, to) {
		l = append(l, key, string(value))
	}
	return l
}

// keeps asks for a store to have these keys and values alone, by all calls that tell of them.
func keeps(t *testing.T, name string, s *Store, keys map[string]string) {
	t.Helper()
	l := []string{}
	for _, key := range slices.Sorted(maps.Keys(keys)) {
		l = append(l, key, keys[key])
		if value, ok := s.Get(key); !ok || string(value) != keys[key] {
			t.Errorf("%s: Get(%q) = %q, %v", name, key, value, ok)
		}
	}
	if got := told(s, "", ""); !slices.Equal(got, l) || s.Len() != len(keys) {
		t.Errorf("%s: Range tells %q, Len %d, want %q", name, got, s.Len(), l)
	}
}

// P12.2, P12.3: the document's example.
func TestExample(t *testing.T) {
	f := disk(t, 1000)
	s := open(t, f, "kv")
	commit(t, s, give("a", "1"), give("b", "2"))
	commit(t, s, take("a"))
	keeps(t, "the store", s, map[string]string{"b": "2"})
	keeps(t, "again", open(t, f, "kv"), map[string]string{"b": "2"})
}

// P12.2: what Open refuses.
func TestOpenRefused(t *testing.T) {
	f := disk(t, 1000)
	no := func(f *files.Files, name string, e api.Errno) {
		t.Helper()
		if s, got := Open(f, name); s != nil || got != e {
			t.Errorf("Open(%q) = %v, %d, want %d", name, s, got, e)
		}
	}
	no(nil, "kv", api.ErrArg)
	for _, name := range []string{"", "Kv", "k v", strings.Repeat("k", 29)} {
		no(f, name, api.ErrArg)
	}
	open(t, f, strings.Repeat("k", 28))
	for i, wrong := range []string{"", "\x01", "\x00\x00", "hello", "\x01\x01a\x02", plainBatch(full(17, 65537)...)[:65536]} {
		name := fmt.Sprint("kv", i)
		g := disk(t, 1<<20)
		l, _, _ := log.Open(g, name)
		l.Append([]byte(plainBatch(give("a", "1"))))
		l.Append([]byte(wrong))
		l.Append([]byte(plainBatch(give("b", "1"))))
		no(g, name, api.ErrStore)
		g.Stop(0)
		no(g, name, api.ErrOff)
	}
	// The log is mended all the same.
	f.Append("x", []byte("torn"))
	f.Append("x-new", []byte("left"))
	f.Sync()
	f.Stop(2)
	no(f, "x", api.ErrOff)
	f.Crash(2, 0)
	keeps(t, "mended", open(t, f, "x"), nil)
}

// P12.2: batches are done in order, put by put, and each is a record of the log.
func TestCommit(t *testing.T) {
	f := disk(t, 10000)
	s := open(t, f, "kv")
	keys := map[string]string{}
	var batches []string
	size := 0
	for _, c := range []struct {
		l    []api.Put
		keys map[string]string
	}{
		{[]api.Put{give("a", "1")}, map[string]string{"a": "1"}},
		{[]api.Put{give("b", ""), give("c", "3")}, map[string]string{"a": "1", "b": "", "c": "3"}},
		{nil, map[string]string{"a": "1", "b": "", "c": "3"}},
		{[]api.Put{give("a", "x"), take("b"), take("none")}, map[string]string{"a": "x", "c": "3"}},
		{[]api.Put{take("a"), give("a", "back")}, map[string]string{"a": "back", "c": "3"}},
		{[]api.Put{give("c", "4"), take("c")}, map[string]string{"a": "back"}},
		{[]api.Put{give("d", "1"), give("d", "2"), give("d", "3")}, map[string]string{"a": "back", "d": "3"}},
		{[]api.Put{take("a"), take("d")}, nil},
		{[]api.Put{give(strings.Repeat("k", 64), strings.Repeat("v", 4096))}, map[string]string{strings.Repeat("k", 64): strings.Repeat("v", 4096)}},
	} {
		commit(t, s, c.l...)
		keys = c.keys
		batches = append(batches, plainBatch(c.l...))
		size += 12 + len(plainBatch(c.l...))
		keeps(t, "Commit", s, keys)
		if s.Batches() != len(batches) || s.Size() != size || f.Unsure() != 0 {
			t.Errorf("Batches %d, Size %d, Unsure %d", s.Batches(), s.Size(), f.Unsure())
		}
		if got := logged(t, f, "kv"); !slices.Equal(got, batches) {
			t.Errorf("the log has %q", got)
		}
		again := open(t, f, "kv")
		keeps(t, "again", again, keys)
		if again.Batches() != len(batches) || again.Size() != size {
			t.Errorf("again: Batches %d, Size %d", again.Batches(), again.Size())
		}
	}
}

// P12.2: what Encode refuses, and a full disk, change nothing; the store goes on.
func TestCommitRefused(t *testing.T) {
	f := disk(t, 100)
	s := open(t, f, "kv")
	commit(t, s, give("a", "1"))
	still := func(name string) {
		t.Helper()
		keeps(t, name, s, map[string]string{"a": "1"})
		if s.Batches() != 1 || s.Size() != 18 || f.Left() != 82 || f.Unsure() != 0 {
			t.Errorf("%s: Batches %d, Size %d, Left %d, Unsure %d", name, s.Batches(), s.Size(), f.Left(), f.Unsure())
		}
	}
	want(t, "no key", s.Commit([]api.Put{give("b", "2"), give("", "2")}), api.ErrArg)
	still("no key")
	want(t, "too many", s.Commit(slices.Repeat([]api.Put{give("b", "")}, 65)), api.ErrLong)
	still("too many")
	want(t, "too long", s.Commit(full(17, 65537)), api.ErrLong)
	still("too long")
	want(t, "no room", s.Commit([]api.Put{take("a"), give("b", strings.Repeat("v", 63))}), api.ErrFull)
	still("no room")
	want(t, "no room, the longest", s.Commit(full(17, 65536)), api.ErrFull)
	still("no room, the longest")
	commit(t, s, give("b", strings.Repeat("v", 65)))
	keeps(t, "room", s, map[string]string{"a": "1", "b": strings.Repeat("v", 65)})
	if f.Left() != 0 {
		t.Errorf("Left %d", f.Left())
	}
	want(t, "no room at all", s.Commit(nil), api.ErrFull)
	f.Stop(0)
	want(t, "off and no key", s.Commit([]api.Put{give("", "")}), api.ErrArg)
	want(t, "off and too many", s.Commit(slices.Repeat([]api.Put{give("b", "")}, 65)), api.ErrLong)
}

// useless asks for ErrOff of each Commit and Compact, whatever they are given, and for all keys as before.
func useless(t *testing.T, name string, s *Store, keys map[string]string) {
	t.Helper()
	for range 2 {
		// These first: the log is not asked by them.
		want(t, name+": Commit without a key", s.Commit([]api.Put{{}}), api.ErrOff)
		want(t, name+": Commit of too much", s.Commit(slices.Repeat([]api.Put{give("b", "")}, 65)), api.ErrOff)
		want(t, name+": Commit", s.Commit([]api.Put{give("new", "x")}), api.ErrOff)
		want(t, name+": Commit of nothing", s.Commit(nil), api.ErrOff)
		want(t, name+": Compact", s.Compact(), api.ErrOff)
		keeps(t, name, s, keys)
	}
}

// P12.3: behind a disk that did not answer, a Commit is not done here; behind a crash it may be there.
func TestCommitOff(t *testing.T) {
	for stop, batches := range []int{1, 2, 2} {
		f := disk(t, 1000)
		s := open(t, f, "kv")
		commit(t, s, give("a", "1"))
		f.Stop(stop)
		e := s.Commit([]api.Put{give("b", "2"), take("a")})
		name := fmt.Sprint("power for ", stop)
		if s.Batches() != batches || s.Size() != []int{18, 39, 39}[stop] {
			t.Errorf("%s: Batches %d, Size %d", name, s.Batches(), s.Size())
		}
		if stop == 2 {
			want(t, name, e, api.OK)
			keeps(t, name, s, map[string]string{"b": "2"})
			want(t, name, s.Commit(nil), api.ErrOff)
			useless(t, name, s, map[string]string{"b": "2"})
			continue
		}
		want(t, name, e, api.ErrOff)
		useless(t, name, s, map[string]string{"a": "1"})
		f.Crash(f.Unsure(), 0)
		useless(t, name+", on again", s, map[string]string{"a": "1"})
		keys := map[string]string{"a": "1"}
		if stop == 1 {
			keys = map[string]string{"b": "2"}
		}
		keeps(t, name+", again", open(t, f, "kv"), keys)
	}
}

// P12.3: Get of keys that are there, and of others.
func TestGet(t *testing.T) {
	f := disk(t, 1000)
	s := open(t, f, "kv")
	commit(t, s, give("a", "1"), give("empty", ""), give("gone", "x"), take("gone"), give("ab\x00", "2"))
	for _, c := range []struct {
		key, value string
		ok         bool
	}{{"a", "1", true}, {"empty", "", true}, {"ab\x00", "2", true}, {"gone", "", false}, {"none", "", false}, {"", "", false}, {"ab", "", false}, {"A", "", false}, {strings.Repeat("k", 1000), "", false}} {
		if value, ok := s.Get(c.key); string(value) != c.value || ok != c.ok {
			t.Errorf("Get(%q) = %q, %v", c.key, value, ok)
		}
	}
}

// P12.3: keys from one on and below another one, by their bytes.
func TestRange(t *testing.T) {
	f := disk(t, 10000)
	s := open(t, f, "kv")
	keys := []string{"\x00", "\x00\x00", "A", "a", "a\x00", "aa", "ab", "b", "ba", "z", "\u00E4", "\xFE", "\xFF", "\xFF\xFF"}
	var l []api.Put
	for i := range keys {
		l = append(l, give(keys[(i*5)%len(keys)], "of "+keys[(i*5)%len(keys)]))
	}
	commit(t, s, l...)
	slices.Sort(keys)
	bounds := append([]string{"", "B", "a\x00\x00", "c", "zz", "\xFF\xFF\xFF", strings.Repeat("\xFF", 100)}, keys...)
	for _, from := range bounds {
		for _, to := range bounds {
			expected := []string{}
			for _, key := range keys {
				if from <= key && (to == "" || key < to) {
					expected = append(expected, key, "of "+key)
				}
			}
			if got := told(s, from, to); !slices.Equal(got, expected) {
				t.Errorf("Range(%q, %q) tells %q, want %q", from, to, got, expected)
			}
		}
	}
}

// R5: a range begins anew each time, may be stopped, changes nothing, and is of what is there when it is gone over.
func TestRangeAgain(t *testing.T) {
	f := disk(t, 10000)
	s := open(t, f, "kv")
	r := s.Range("b", "d")
	tell := func() []string {
		l := []string{}
		for key, value := range r {
			l = append(l, key+string(value))
		}
		return l
	}
	asked := func(expected ...string) {
		t.Helper()
		for range 2 {
			if got := tell(); !slices.Equal(got, expected) {
				t.Errorf("the range tells %q, want %q", got, expected)
			}
		}
	}
	asked()
	commit(t, s, give("a", "1"), give("b", "2"), give("c", "3"), give("d", "4"))
	asked("b2", "c3")
	for range r {
		break
	}
	for key := range r {
		if key == "c" {
			break
		}
	}
	asked("b2", "c3")
	commit(t, s, take("b"), give("c", "5"), give("bb", "6"))
	asked("bb6", "c5")
	want(t, "Compact", s.Compact(), api.OK)
	asked("bb6", "c5")
	for key, value := range r {
		for inner := range r {
			if inner > key {
				break
			}
		}
		value[0] = '!'
		_ = append(value, "!!!!!!!!!!"...)
	}
	asked("bb6", "c5")
	keeps(t, "behind it", s, map[string]string{"a": "1", "bb": "6", "c": "5", "d": "4"})
}

// R3: what is handed in is not kept or changed, and what is answered is not the store's.
func TestStoreMemory(t *testing.T) {
	f := disk(t, 10000)
	name, key, value := []byte("kv"), []byte("key"), []byte("value and behind")
	text := func(b []byte) string { return unsafe.String(unsafe.SliceData(b), len(b)) }
	s := open(t, f, text(name))
	copy(name, "xx")
	l := []api.Put{{Key: text(key), Value: value[:5]}, give("k", "v"), take("behind")}
	commit(t, s, l[:2]...)
	if string(value) != "value and behind" || string(key) != "key" || l[2].Key != "behind" {
		t.Error("Commit changed what it was given")
	}
	from, to := []byte("k"), []byte("l")
	r := s.Range(text(from), text(to))
	copy(key, "!!!")
	copy(value, "!!!!!")
	copy(from, "z")
	copy(to, "0")
	keys := map[string]string{"key": "value", "k": "v"}
	keeps(t, "the store", s, keys)
	n := 0
	for range r {
		n++
	}
	if n != 2 {
		t.Errorf("the range tells %d keys", n)
	}
	got, _ := s.Get("key")
	other, _ := s.Get("key")
	copy(got[:cap(got)], "??????????????")
	if string(other) != "value" {
		t.Error("two answers share memory")
	}
	keeps(t, "the store", s, keys)
	commit(t, s)
	if len(f.List()) != 1 || f.List()[0].Name != "kv" {
		t.Error("the name was kept")
	}
}

// P12.3: of a nil store, and of one that no call made.
func TestNil(t *testing.T) {
	for _, s := range []*Store{nil, {}} {
		want(t, "Commit", s.Commit([]api.Put{give("a", "1")}), api.ErrClosed)
		want(t, "Commit", s.Commit([]api.Put{{}}), api.ErrClosed)
		want(t, "Commit", s.Commit(nil), api.ErrClosed)
		want(t, "Compact", s.Compact(), api.ErrClosed)
		if value, ok := s.Get("a"); value != nil || ok {
			t.Errorf("Get = %q, %v", value, ok)
		}
		if got := told(s, "", ""); len(got) != 0 {
			t.Errorf("Range tells %q", got)
		}
		if s.Len() != 0 || s.Batches() != 0 || s.Size() != 0 {
			t.Errorf("Len %d, Batches %d, Size %d", s.Len(), s.Batches(), s.Size())
		}
	}
}

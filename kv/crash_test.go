package kv

import (
	"fmt"
	"maps"
	"math/rand"
	"slices"
	"strings"
	"testing"

	"tollhouse/api"
	"tollhouse/files"
)

// plainDo does a batch to a map, put by put.
func plainDo(keys map[string]string, l []api.Put) {
	for _, p := range l {
		if p.Gone {
			delete(keys, p.Key)
		} else {
			keys[p.Key] = string(p.Value)
		}
	}
}

// plainShortest is the batches that a Compact makes, by the document's words: as many puts in each as it may have.
func plainShortest(keys map[string]string) []string {
	var batches []string
	left := slices.Sorted(maps.Keys(keys))
	for len(left) > 0 {
		n := len(left)
		puts := func() []api.Put {
			var l []api.Put
			for _, key := range left[:n] {
				l = append(l, give(key, keys[key]))
			}
			return l
		}
		for n > 64 || len(plainBatch(puts()...)) > 65536 {
			n--
		}
		batches = append(batches, plainBatch(puts()...))
		left = left[n:]
	}
	return batches
}

// compacted asks for a Compact, for all that it makes, and that no key is another one then.
func compacted(t *testing.T, name string, f *files.Files, s *Store, keys map[string]string) {
	t.Helper()
	want(t, name, s.Compact(), api.OK)
	batches := plainShortest(keys)
	if got := logged(t, f, "kv"); !slices.Equal(got, batches) {
		t.Errorf("%s: %d batches, want %d", name, len(got), len(batches))
	}
	size := 0
	for _, b := range batches {
		size += 12 + len(b)
	}
	if s.Batches() != len(batches) || s.Size() != size || f.Unsure() != 0 || len(f.List()) != 1 {
		t.Errorf("%s: Batches %d, Size %d, Unsure %d", name, s.Batches(), s.Size(), f.Unsure())
	}
	keeps(t, name, s, keys)
	keeps(t, name+", again", open(t, f, "kv"), keys)
}

// P12.3, P12.5: a Compact leaves all keys, in as few batches as there may be, and the store goes on.
func TestCompact(t *testing.T) {
	random := rand.New(rand.NewSource(125))
	for _, c := range []struct{ keys, longest int }{{0, 0}, {1, 10}, {63, 10}, {64, 10}, {65, 10}, {128, 5}, {129, 5}, {200, 1}, {15, 4096}, {40, 4096}, {100, 2000}, {130, 1100}} {
		f := disk(t, 1<<22)
		s := open(t, f, "kv")
		keys := map[string]string{}
		for i := range c.keys {
			l := []api.Put{give(fmt.Sprint("k", random.Intn(10), i), strings.Repeat("v", c.longest-random.Intn(c.longest/4+1))), take("other"), give("gone", "x")}
			commit(t, s, l...)
			plainDo(keys, l)
		}
		commit(t, s, take("gone"))
		delete(keys, "gone")
		name := fmt.Sprint(c.keys, " keys of ", c.longest)
		compacted(t, name, f, s, keys)
		compacted(t, name+", twice", f, s, keys)
		commit(t, s, give("more", "m"))
		keys["more"] = "m"
		keeps(t, name, s, keys)
		compacted(t, name+", and one more", f, s, keys)
	}
}

// P12.3: batches of just as many bytes as there may be.
func TestCompactFull(t *testing.T) {
	for more := range 3 {
		f := disk(t, 1<<20)
		s := open(t, f, "kv")
		keys := map[string]string{}
		for i := range 16 {
			l := []api.Put{give(string(rune('a'+i)), strings.Repeat("v", 4080))}
			commit(t, s, l...)
			plainDo(keys, l)
		}
		used := 1 + 16*(1+1+1+3+4080)
		l := []api.Put{give("z", strings.Repeat("v", 65536-used-4+more-1))}
		commit(t, s, l...)
		plainDo(keys, l)
		if got := len(plainShortest(keys)); got != []int{1, 1, 2}[more] {
			t.Fatalf("%d more: %d batches", more, got)
		}
		compacted(t, fmt.Sprint(more, " more"), f, s, keys)
	}
}

// P12.3: a Compact that is refused leaves all keys, and a store that takes no more; opened anew it has all keys.
func TestCompactRefused(t *testing.T) {
	keys := map[string]string{"a": "1", "b": "2"}
	for stop := range 5 {
		f := disk(t, 1000)
		s := open(t, f, "kv")
		commit(t, s, give("a", "1"), give("b", "3"))
		commit(t, s, give("b", "2"))
		f.Stop(stop)
		e := s.Compact()
		if stop == 4 {
			want(t, "power for 4", e, api.OK)
			continue
		}
		name := fmt.Sprint("power for ", stop)
		want(t, name, e, api.ErrOff)
		useless(t, name, s, keys)
		if s.Batches() != 2 || s.Size() != 12+11+12+6 {
			t.Errorf("%s: Batches %d, Size %d", name, s.Batches(), s.Size())
		}
		f.Crash(f.Unsure(), 0)
		useless(t, name+", on again", s, keys)
		keeps(t, name+", again", open(t, f, "kv"), keys)
	}
	f := disk(t, 100)
	s := open(t, f, "kv")
	commit(t, s, give("a", strings.Repeat("v", 60)))
	want(t, "no room", s.Compact(), api.ErrFull)
	useless(t, "no room", s, map[string]string{"a": strings.Repeat("v", 60)})
	keeps(t, "again", open(t, f, "kv"), map[string]string{"a": strings.Repeat("v", 60)})
}

// book is all batches, and how many of them were committed.
type book struct {
	batches [][]api.Put
	sure    int
}

// may tells whether a store is as behind a beginning of the batches, with all that were committed.
func (b *book) may(s *Store) bool {
	got := told(s, "", "")
	keys := map[string]string{}
	for i := range len(b.batches) + 1 {
		expected := []string{}
		for _, key := range slices.Sorted(maps.Keys(keys)) {
			expected = append(expected, key, keys[key])
		}
		if i >= b.sure && slices.Equal(got, expected) {
			return true
		}
		if i < len(b.batches) {
			plainDo(keys, b.batches[i])
		}
	}
	return false
}

// anyBatch is a small one.
func anyBatch(random *rand.Rand) []api.Put {
	var l []api.Put
	for range random.Intn(4) {
		key := string(rune('a' + random.Intn(6)))
		if random.Intn(3) == 0 {
			l = append(l, take(key))
		} else {
			l = append(l, give(key, strings.Repeat(string(rune('0'+random.Intn(10))), random.Intn(8))))
		}
	}
	return l
}

// anyCall does one call, and writes down what may be told then.
func anyCall(random *rand.Rand, s *Store, b *book) (string, api.Errno) {
	if random.Intn(4) == 0 {
		return "Compact", s.Compact()
	}
	l := anyBatch(random)
	e := s.Commit(l)
	if e == api.OK || e == api.ErrOff {
		b.batches = append(b.batches, l)
	}
	if e == api.OK {
		b.sure = len(b.batches)
	}
	return fmt.Sprintf("Commit(%v)", l), e
}

// everyCrash lets forks of a disk crash in all ways, and opens the store, twice.
func everyCrash(t *testing.T, story string, f *files.Files, b *book) {
	t.Helper()
	for acts := range f.Unsure() + 1 {
		for bytes := 0; bytes < 90; bytes += 7 {
			g := f.Fork()
			g.Crash(acts, bytes)
			s, e := Open(g, "kv")
			if e != api.OK || !b.may(s) {
				t.Fatalf("%s\nCrash(%d, %d): %q, %d", story, acts, bytes, told(s, "", ""), e)
			}
			g.Crash(0, bytes)
			if again, e := Open(g, "kv"); e != api.OK || !slices.Equal(told(again, "", ""), told(s, "", "")) {
				t.Fatalf("%s\nCrash(%d, %d), again: %d", story, acts, bytes, e)
			}
		}
	}
}

// P12.4, P12.5: behind any crashes, one after the other, in the middle of a call too, a store is as behind a beginning of its batches, with all that were committed.
func TestCrashes(t *testing.T) {
	random := rand.New(rand.NewSource(124))
	for range 200 {
		f := disk(t, 100+random.Intn(400))
		b := &book{}
		story := ""
		for range 6 {
			s, e := Open(f, "kv")
			if e != api.OK || !b.may(s) {
				t.Fatalf("%s\nOpen: %q, %d", story, told(s, "", ""), e)
			}
			var l []api.Put
			for key, value := range s.Range("", "") {
				l = append(l, give(key, string(value)))
			}
			*b = book{batches: [][]api.Put{l}, sure: 1}
			if random.Intn(3) > 0 {
				f.Stop(random.Intn(16))
			}
			for range random.Intn(10) {
				name, e := anyCall(random, s, b)
				story += fmt.Sprint("\n", name, ": ", e)
				everyCrash(t, story, f, b)
				if e == api.ErrOff {
					break
				}
			}
			acts, bytes := random.Intn(f.Unsure()+1), random.Intn(60)
			story += fmt.Sprintf("\nCrash(%d, %d)", acts, bytes)
			want(t, story, f.Crash(acts, bytes), api.OK)
		}
	}
}

// P12.2 to P12.5: what was put last is what there is, whatever was committed, compacted and opened again.
func TestPutLast(t *testing.T) {
	random := rand.New(rand.NewSource(123))
	f := disk(t, 1<<20)
	s := open(t, f, "kv")
	keys := map[string]string{}
	for range 1500 {
		switch random.Intn(20) {
		case 0:
			s = open(t, f, "kv")
		case 1:
			compacted(t, "Compact", f, s, keys)
		default:
			l := anyBatch(random)
			commit(t, s, l...)
			plainDo(keys, l)
		}
		keeps(t, "the store", s, keys)
	}
}

// Many batches cost what they have, and not each of them what all have.
func TestManyBatches(t *testing.T) {
	f := disk(t, 1<<24)
	s := open(t, f, "kv")
	for i := range 20000 {
		if s.Commit([]api.Put{give(fmt.Sprint("k", i), "some value")}) != api.OK {
			t.Fatal("refused")
		}
	}
	want(t, "Compact", s.Compact(), api.OK)
	if s.Len() != 20000 || s.Batches() != 313 {
		t.Errorf("Len %d, Batches %d", s.Len(), s.Batches())
	}
}

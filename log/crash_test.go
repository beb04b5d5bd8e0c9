package log

import (
	"fmt"
	"math/rand"
	"slices"
	"testing"
	"unsafe"

	"tollhouse/api"
	"tollhouse/files"
)

// textOver is a text whose bytes are b's, to see whether it is kept.
func textOver(b []byte) string {
	return unsafe.String(unsafe.SliceData(b), len(b))
}

// hope is what may be told behind a crash, by the document's words.
type hope struct {
	payloads []string // that were appended
	sure     int      // how many were ahead of the last Sync
	fresh    []string // of a Rewrite that was cut off
	cut      bool
}

func (h *hope) may(got []string) bool {
	if h.cut && slices.Equal(got, h.fresh) {
		return true
	}
	return len(got) >= h.sure && len(got) <= len(h.payloads) && slices.Equal(got, h.payloads[:len(got)])
}

// anyCall does one call, tells what it was and what it answered, and takes to heart what may be told then.
func anyCall(random *rand.Rand, l *Log, h *hope) (string, api.Errno) {
	payload := func() string { return "0123456789abcdefghijklmnop"[random.Intn(10):][:random.Intn(16)] }
	switch random.Intn(8) {
	case 0, 1:
		e := l.Sync()
		if e == api.OK {
			h.sure = len(h.payloads)
		}
		return "Sync", e
	case 2:
		var fresh []string
		var in [][]byte
		for range random.Intn(4) {
			fresh = append(fresh, payload())
			in = append(in, []byte(fresh[len(fresh)-1]))
		}
		e := l.Rewrite(in)
		if e == api.OK {
			*h = hope{payloads: fresh, sure: len(fresh)}
		} else {
			h.fresh, h.cut = fresh, true
		}
		return fmt.Sprintf("Rewrite(%q)", fresh), e
	}
	text := payload()
	e := l.Append([]byte(text))
	if e == api.OK {
		h.payloads = append(h.payloads, text)
	}
	return fmt.Sprintf("Append(%q)", text), e
}

// everyCrash lets forks of a disk crash in all ways, opens the log, lets the disk crash within and behind that too, and opens it again.
func everyCrash(t *testing.T, story string, f *files.Files, h *hope) {
	t.Helper()
	for acts := range f.Unsure() + 1 {
		for bytes := 0; bytes < 64; bytes += 5 {
			g := f.Fork()
			g.Crash(acts, bytes)
			k := g.Fork()
			_, p, e := Open(g, "a")
			if e != api.OK || !h.may(texts(p)) {
				t.Fatalf("%s\nCrash(%d, %d): %q, %d; there may be %q, %d of them for sure, or %q (%v)", story, acts, bytes, p, e, h.payloads, h.sure, h.fresh, h.cut)
			}
			has(t, story, g, whole(g, texts(p))...)
			for stop := range 3 {
				again := k.Fork()
				again.Stop(stop)
				Open(again, "a")
				again.Crash(again.Unsure()/2, 0)
				if _, q, e := Open(again, "a"); e != api.OK || !slices.Equal(texts(q), texts(p)) {
					t.Fatalf("%s\nCrash(%d, %d), and within Open: %q, then %q, %d", story, acts, bytes, p, q, e)
				}
			}
		}
	}
}

// whole is the files that an opened log leaves: its records alone; none, if it never had a file.
func whole(f *files.Files, payloads []string) []string {
	if len(f.List()) == 0 && len(payloads) == 0 {
		return nil
	}
	return []string{"a", plainLog(payloads...)}
}

// P11.4: behind any crashes, one after the other, in the middle of a call too, a log tells a beginning of what was appended, with all that was sure; or what a Rewrite was to put there.
func TestCrashes(t *testing.T) {
	random := rand.New(rand.NewSource(11))
	for range 150 {
		f := disk(t, 400)
		h := &hope{}
		story := ""
		for range 6 {
			l, p, e := Open(f, "a")
			if e != api.OK || !h.may(texts(p)) {
				t.Fatalf("%s\nOpen: %q, %d; there may be %q, %d of them for sure, or %q (%v)", story, p, e, h.payloads, h.sure, h.fresh, h.cut)
			}
			*h = hope{payloads: texts(p), sure: len(p)}
			if random.Intn(2) == 0 {
				f.Stop(random.Intn(12))
			}
			for range random.Intn(10) {
				name, e := anyCall(random, l, h)
				story += fmt.Sprint("\n", name, ": ", e)
				everyCrash(t, story, f, h)
				if e != api.OK && e != api.ErrFull {
					break
				}
			}
			acts, bytes := random.Intn(f.Unsure()+1), random.Intn(30)
			story += fmt.Sprintf("\nCrash(%d, %d)", acts, bytes)
			want(t, story, f.Crash(acts, bytes), api.OK)
		}
	}
}

// A long log costs what its records have, and not each of them what all have.
func TestManyRecords(t *testing.T) {
	f := disk(t, 1<<24)
	l := open(t, f, "a")
	for i := range 50000 {
		if l.Append(make([]byte, i%50)) != api.OK || l.Sync() != api.OK {
			t.Fatal("refused")
		}
	}
	_, p, e := Open(f, "a")
	if e != api.OK || len(p) != 50000 || l.Len() != 50000 {
		t.Errorf("%d payloads, Len %d, %d", len(p), l.Len(), e)
	}
}

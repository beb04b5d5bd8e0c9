package files

import (
	"maps"
	"slices"
	"strings"
	"testing"

	"tollhouse/api"
)

// plain is a disk by the document's words, apart from the program: it has what the files were at each moment since the last Sync, and does nothing again.
type plain struct {
	size  int
	past  []map[string]string // at the last Sync, and behind each unsure act
	added []addition          // of each unsure act
	off   bool
	stop  bool
	left  int // acts and Syncs till it is off, if stop
}

// addition is what an act appended; an empty name: it was no Append.
type addition struct {
	name string
	b    string
}

func newPlain(size int) *plain {
	return &plain{size: size, past: []map[string]string{{}}}
}

func (p *plain) now() map[string]string {
	return p.past[len(p.past)-1]
}

func (p *plain) room() int {
	n := p.size
	for _, b := range p.now() {
		n -= len(b)
	}
	return n
}

func plainName(name string) bool {
	const letters = "abcdefghijklmnopqrstuvwxyz0123456789-"
	return 1 <= len(name) && len(name) <= 32 && strings.Trim(name, letters) == ""
}

// act takes what the files are behind an act.
func (p *plain) act(files map[string]string, a addition) api.Errno {
	p.past, p.added = append(p.past, files), append(p.added, a)
	p.count()
	return api.OK
}

func (p *plain) count() {
	if p.stop {
		p.left--
		p.off = p.left == 0
	}
}

func (p *plain) Append(name, b string) api.Errno {
	if !plainName(name) {
		return api.ErrArg
	}
	if p.off {
		return api.ErrOff
	}
	files := maps.Clone(p.now())
	if _, ok := files[name]; !ok && len(files) == 16 || len(b) > p.room() {
		return api.ErrFull
	}
	files[name] += b
	return p.act(files, addition{name, b})
}

func (p *plain) Truncate(name string, n int) api.Errno {
	if !plainName(name) || n < 0 {
		return api.ErrArg
	}
	if p.off {
		return api.ErrOff
	}
	files := maps.Clone(p.now())
	b, ok := files[name]
	if !ok {
		return api.ErrNone
	}
	if n < len(b) {
		files[name] = b[:n]
	}
	return p.act(files, addition{})
}

func (p *plain) Rename(from, to string) api.Errno {
	if !plainName(from) || !plainName(to) {
		return api.ErrArg
	}
	if p.off {
		return api.ErrOff
	}
	files := maps.Clone(p.now())
	b, ok := files[from]
	if !ok {
		return api.ErrNone
	}
	if from != to {
		files[to] = b
		delete(files, from)
	}
	return p.act(files, addition{})
}

func (p *plain) Remove(name string) api.Errno {
	if !plainName(name) {
		return api.ErrArg
	}
	if p.off {
		return api.ErrOff
	}
	files := maps.Clone(p.now())
	if _, ok := files[name]; !ok {
		return api.ErrNone
	}
	delete(files, name)
	return p.act(files, addition{})
}

func (p *plain) Sync() api.Errno {
	if p.off {
		return api.ErrOff
	}
	p.past, p.added = []map[string]string{p.now()}, nil
	p.count()
	return api.OK
}

func (p *plain) Crash(acts, bytes int) api.Errno {
	if acts < 0 || acts > len(p.added) || bytes < 0 {
		return api.ErrArg
	}
	files := maps.Clone(p.past[acts])
	if acts < len(p.added) {
		next := p.added[acts]
		if torn := next.b[:min(bytes, len(next.b))]; next.name != "" && torn != "" {
			files[next.name] += torn
		}
	}
	*p = plain{size: p.size, past: []map[string]string{files}}
	return api.OK
}

func (p *plain) Stop(n int) {
	if p.off {
		return
	}
	p.stop, p.left, p.off = n >= 0, n, n == 0
}

func (p *plain) Fork() *plain {
	other := *p
	other.past, other.added = slices.Clone(p.past), slices.Clone(p.added)
	return &other
}

// same asks that f tells all as p does.
func same(t *testing.T, name string, f *Files, p *plain) {
	t.Helper()
	if f.Unsure() != len(p.added) || f.Left() != p.room() || f.Off() != p.off {
		t.Errorf("%s: Unsure %d, Left %d, Off %v, want %d, %d, %v", name, f.Unsure(), f.Left(), f.Off(), len(p.added), p.room(), p.off)
	}
	l := f.List()
	if names := slices.Sorted(maps.Keys(p.now())); len(l) != len(names) {
		t.Fatalf("%s: %d files, want %q", name, len(l), names)
	} else {
		for i, file := range l {
			if file.Name != names[i] || string(file.Bytes) != p.now()[names[i]] {
				t.Fatalf("%s: file %d is %q: %q, want %q: %q", name, i, file.Name, file.Bytes, names[i], p.now()[names[i]])
			}
		}
	}
	for _, file := range l {
		b, e := f.Read(file.Name)
		if p.off && (e != api.ErrOff || len(b) > 0) || !p.off && (e != api.OK || string(b) != string(file.Bytes)) {
			t.Errorf("%s: Read(%q) = %q, %d", name, file.Name, b, e)
		}
	}
}

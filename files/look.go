package files

import (
	"slices"
	"strings"

	"tollhouse/api"
)

// Read is what a file has.
func (f *Files) Read(name string) ([]byte, api.Errno) {
	if e := f.refusalOf(name, true); e != api.OK {
		return nil, e
	}
	return slices.Clone(f.now[name]), api.OK
}

// List is all files, by rising names.
func (f *Files) List() []api.File {
	if f.closed() {
		return nil
	}
	l := make([]api.File, 0, len(f.now))
	for name, b := range f.now {
		l = append(l, api.File{Name: name, Bytes: slices.Clone(b)})
	}
	slices.SortFunc(l, func(a, b api.File) int { return strings.Compare(a.Name, b.Name) })
	return l
}

// Off tells whether the power is off.
func (f *Files) Off() bool {
	return !f.closed() && f.till == 0
}

// Unsure is how many acts there were since the last Sync.
func (f *Files) Unsure() int {
	if f.closed() {
		return 0
	}
	return len(f.unsure)
}

// Left is for how many bytes there is room.
func (f *Files) Left() int {
	if f.closed() {
		return 0
	}
	return f.size - f.now.used()
}

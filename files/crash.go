package files

import (
	"slices"

	"tollhouse/api"
)

// Crash leaves what was sure, the first acts of the unsure ones, and the first bytes of the next one, if it is an Append; then the power is on.
func (f *Files) Crash(acts, bytes int) api.Errno {
	if f.closed() {
		return api.ErrClosed
	}
	if acts < 0 || acts > len(f.unsure) || bytes < 0 {
		return api.ErrArg
	}
	cut := f.unsure[acts:]
	f.sureBehind(acts)
	if len(cut) > 0 && cut[0].begun != nil {
		cut[0].begun(f.sure, bytes)
	}
	f.now = f.sure.clone()
	f.till = never
	return api.OK
}

// Stop lets the power go off behind n further acts and Syncs; below 0: never.
func (f *Files) Stop(n int) {
	if f.closed() || f.Off() {
		return
	}
	f.till = n
}

// Fork is another disk that is the same.
func (f *Files) Fork() *Files {
	if f.closed() {
		return nil
	}
	return &Files{size: f.size, now: f.now.clone(), sure: f.sure.clone(), unsure: slices.Clone(f.unsure), till: f.till}
}

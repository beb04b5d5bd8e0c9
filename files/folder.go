package files

import (
	"slices"

	"tollhouse/api"
)

// folder is files by their names. No two share memory.
type folder map[string][]byte

func (d folder) has(name string) bool {
	_, ok := d[name]
	return ok
}

func (d folder) add(name string, b []byte) {
	d[name] = append(d[name], b...)
}

func (d folder) cut(name string, n int) {
	d[name] = d[name][:min(n, len(d[name]))]
}

func (d folder) rename(from, to string) {
	b := d[from]
	// Taken away ahead, so that the two names may be the same.
	delete(d, from)
	d[to] = b
}

// used is how many bytes all files have together.
func (d folder) used() int {
	sum := 0
	for _, b := range d {
		sum += len(b)
	}
	return sum
}

func (d folder) clone() folder {
	other := folder{}
	for name, b := range d {
		other[name] = slices.Clone(b)
	}
	return other
}

// mayName tells whether a file may have this name.
func mayName(name string) bool {
	if len(name) < 1 || len(name) > api.MaxName {
		return false
	}
	for _, letter := range name {
		if !mayLetter(letter) {
			return false
		}
	}
	return true
}

func mayLetter(letter rune) bool {
	return 'a' <= letter && letter <= 'z' || '0' <= letter && letter <= '9' || letter == '-'
}

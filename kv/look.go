package kv

import (
	"iter"
	"slices"
	"strings"

	"tollhouse/api"
)

// Get is a key's value, if it has one.
func (s *Store) Get(key string) ([]byte, bool) {
	if s.closed() {
		return nil, false
	}
	value, ok := s.values[key]
	return slices.Clone(value), ok
}

// Range goes over the keys that are at least from, and below to (all, if that is empty), rising, with their values.
func (s *Store) Range(from, to string) iter.Seq2[string, []byte] {
	from, to = strings.Clone(from), strings.Clone(to)
	return func(yield func(string, []byte) bool) {
		for _, p := range s.between(from, to) {
			if !yield(p.Key, slices.Clone(p.Value)) {
				return
			}
		}
	}
}

// Len is how many keys there are.
func (s *Store) Len() int {
	if s.closed() {
		return 0
	}
	return len(s.values)
}

// Batches is how many batches the log has.
func (s *Store) Batches() int {
	if s.closed() {
		return 0
	}
	return s.log.Len()
}

// Size is how many bytes the log has.
func (s *Store) Size() int {
	if s.closed() {
		return 0
	}
	return s.log.Size()
}

// between is the keys that are at least from, and below to, rising, with their values, which are still the store's own.
func (s *Store) between(from, to string) []api.Put {
	if s.closed() {
		return nil
	}
	var l []api.Put
	for key, value := range s.values {
		if key >= from && (to == "" || key < to) {
			l = append(l, api.Put{Key: key, Value: value})
		}
	}
	slices.SortFunc(l, func(a, b api.Put) int { return strings.Compare(a.Key, b.Key) })
	return l
}

package circuits

import (
	"cmp"
	"iter"
	"maps"
	"slices"

	"tollhouse/api"
)

// Get is the circuit that came from in.
func (c *Circuits) Get(in api.Hook) (api.Circuit, bool) {
	x, e := c.from(in)
	return told(x), e == api.OK
}

// Out is the circuit that is on its way out to out.
func (c *Circuits) Out(out api.Hook) (api.Circuit, bool) {
	x, e := c.goingTo(out)
	return told(x), e == api.OK
}

// All goes over all, by where they came from, rising.
func (c *Circuits) All() iter.Seq[api.Circuit] {
	return func(yield func(api.Circuit) bool) {
		for _, x := range c.sorted() {
			if !yield(told(x)) {
				return
			}
		}
	}
}

// Len is how many there are.
func (c *Circuits) Len() int {
	if c.closed() {
		return 0
	}
	return len(c.circuits)
}

// Fork is another one that is the same.
func (c *Circuits) Fork() *Circuits {
	if c.closed() {
		return nil
	}
	return &Circuits{circuits: maps.Clone(c.circuits), onWay: maps.Clone(c.onWay)}
}

// sorted is all circuits, by where they came from, rising. Their Reasons are still kept.
func (c *Circuits) sorted() []api.Circuit {
	if c.closed() {
		return nil
	}
	return slices.SortedFunc(maps.Values(c.circuits), func(a, b api.Circuit) int {
		return cmp.Or(cmp.Compare(a.In.Channel, b.In.Channel), cmp.Compare(a.In.Id, b.In.Id))
	})
}

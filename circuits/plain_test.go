package circuits

import (
	"bytes"
	"reflect"
	"testing"

	"tollhouse/api"
	"tollhouse/mac"
)

// plain is a list of circuits, and the document's words.
type plain struct{ all []api.Circuit }

func onWayOut(x api.Circuit) bool {
	return x.State == api.CircuitSent || x.State == api.CircuitPaid
}

// find is the first circuit of which good is true, or -1.
func (p *plain) find(good func(x api.Circuit) bool) int {
	for i, x := range p.all {
		if good(x) {
			return i
		}
	}
	return -1
}

func (p *plain) byIn(in api.Hook) int {
	return p.find(func(x api.Circuit) bool { return x.In == in })
}

func (p *plain) byOut(out api.Hook) int {
	return p.find(func(x api.Circuit) bool { return onWayOut(x) && x.Out == out })
}

func (p *plain) open(x api.Circuit) api.Errno {
	switch {
	case x.In.Channel < 1, x.Out.Channel < 1, x.In.Id < 0, x.Amount < 1, x.Hash == [32]byte{}:
		return api.ErrArg
	case p.byIn(x.In) >= 0:
		return api.ErrTwice
	case len(p.all) == 256:
		return api.ErrFull
	}
	x.Out.Id, x.State, x.Secret, x.Reason = 0, api.CircuitWaiting, [32]byte{}, nil
	p.all = append(p.all, x)
	return api.OK
}

func (p *plain) sent(in api.Hook, id int) api.Errno {
	i := p.byIn(in)
	switch {
	case i < 0:
		return api.ErrNone
	case p.all[i].State != api.CircuitWaiting:
		return api.ErrState
	case p.byOut(api.Hook{Channel: p.all[i].Out.Channel, Id: id}) >= 0:
		return api.ErrTwice
	case id < 0:
		return api.ErrArg
	}
	p.all[i].State, p.all[i].Out.Id = api.CircuitSent, id
	return api.OK
}

func (p *plain) paid(out api.Hook, secret [32]byte) (api.Circuit, api.Errno) {
	i := p.byOut(out)
	switch {
	case i < 0:
		return api.Circuit{}, api.ErrNone
	case mac.Hash(secret) != p.all[i].Hash:
		return api.Circuit{}, api.ErrSecret
	}
	p.all[i].State, p.all[i].Secret = api.CircuitPaid, secret
	return p.all[i], api.OK
}

func (p *plain) fail(i int, reason []byte) (api.Circuit, api.Errno) {
	x := &p.all[i]
	x.State, x.Out, x.Reason = api.CircuitFailed, api.Hook{}, append([]byte{}, reason...)
	return *x, api.OK
}

func (p *plain) failed(out api.Hook, reason []byte) (api.Circuit, api.Errno) {
	i := p.byOut(out)
	switch {
	case i < 0:
		return api.Circuit{}, api.ErrNone
	case p.all[i].State == api.CircuitPaid:
		return api.Circuit{}, api.ErrState
	}
	return p.fail(i, reason)
}

func (p *plain) refuse(in api.Hook, reason []byte) (api.Circuit, api.Errno) {
	i := p.byIn(in)
	switch {
	case i < 0:
		return api.Circuit{}, api.ErrNone
	case p.all[i].State != api.CircuitWaiting:
		return api.Circuit{}, api.ErrState
	}
	return p.fail(i, reason)
}

func (p *plain) done(in api.Hook) api.Errno {
	i := p.byIn(in)
	switch {
	case i < 0:
		return api.ErrNone
	case p.all[i].State != api.CircuitPaid && p.all[i].State != api.CircuitFailed:
		return api.ErrState
	}
	p.all = append(append([]api.Circuit{}, p.all[:i]...), p.all[i+1:]...)
	return api.OK
}

// same tells whether two circuits are the same; nil and the empty list are.
func same(x, y api.Circuit) bool {
	reasons := bytes.Equal(x.Reason, y.Reason)
	x.Reason, y.Reason = nil, nil
	return reasons && reflect.DeepEqual(x, y)
}

// rising is all circuits by rising In, by picking the least again and again.
func (p *plain) rising() []api.Circuit {
	left := append([]api.Circuit{}, p.all...)
	var l []api.Circuit
	for len(left) > 0 {
		least := 0
		for i, x := range left {
			a, b := x.In, left[least].In
			if a.Channel < b.Channel || a.Channel == b.Channel && a.Id < b.Id {
				least = i
			}
		}
		l = append(l, left[least])
		left = append(left[:least], left[least+1:]...)
	}
	return l
}

// check asks c for all that it tells.
func (p *plain) check(t *testing.T, c *Circuits) {
	t.Helper()
	want := p.rising()
	if c.Len() != len(want) {
		t.Fatalf("Len %d, want %d", c.Len(), len(want))
	}
	all := c.All()
	for range 2 {
		i := 0
		for x := range all {
			if i >= len(want) || !same(x, want[i]) {
				t.Fatalf("All, at %d: %v", i, x)
			}
			i++
		}
		if i != len(want) {
			t.Fatalf("All goes over %d, want %d", i, len(want))
		}
	}
	for _, x := range want {
		if y, ok := c.Get(x.In); !ok || !same(x, y) {
			t.Fatalf("Get(%v) = %v, %v, want %v", x.In, y, ok, x)
		}
		y, ok := c.Out(x.Out)
		if i := p.byOut(x.Out); ok != (i >= 0) || ok && !same(y, p.all[i]) || !ok && !same(y, api.Circuit{}) {
			t.Fatalf("Out(%v) = %v, %v", x.Out, y, ok)
		}
	}
}

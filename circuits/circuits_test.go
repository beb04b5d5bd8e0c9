package circuits

import (
	"math"
	"testing"

	"tollhouse/api"
	"tollhouse/mac"
)

func secretOf(n int) [32]byte { return [32]byte{byte(n), byte(n >> 8), 3} }
func hashOf(n int) [32]byte   { return mac.Hash(secretOf(n)) }

func hook(channel, id int) api.Hook { return api.Hook{Channel: channel, Id: id} }

// some is a circuit that may be opened: from the channel 2 to the channel 9.
func some(id int) api.Circuit {
	return api.Circuit{In: hook(2, id), Out: hook(9, 0), Amount: 10 + id, Expiry: 40, Hash: hashOf(id), Key: [32]byte{7}}
}

// opened has some(id) of each id.
func opened(t *testing.T, ids ...int) *Circuits {
	t.Helper()
	c := New()
	for _, id := range ids {
		wantErr(t, "Open", c.Open(some(id)), api.OK)
	}
	return c
}

func wantErr(t *testing.T, name string, e, want api.Errno) {
	t.Helper()
	if e != want {
		t.Errorf("%s: %d, want %d", name, e, want)
	}
}

// wantIs asks for the circuit that came from in, or, if x is empty, that there is none.
func wantIs(t *testing.T, name string, c *Circuits, in api.Hook, x api.Circuit) {
	t.Helper()
	if got, ok := c.Get(in); !same(got, x) || ok != (x.State != 0) {
		t.Errorf("%s: %v, %v, want %v", name, got, ok, x)
	}
}

// refused asks that a call was refused as it should be, and that it told of no circuit.
func refused(t *testing.T, name string, want api.Errno) func(x api.Circuit, e api.Errno) {
	return func(x api.Circuit, e api.Errno) {
		t.Helper()
		if !same(x, api.Circuit{}) || e != want {
			t.Errorf("%s: %v, %d, want %d", name, x, e, want)
		}
	}
}

// wantTold asks that a call told of this circuit.
func wantTold(t *testing.T, name string, want api.Circuit) func(x api.Circuit, e api.Errno) {
	return func(x api.Circuit, e api.Errno) {
		t.Helper()
		if !same(x, want) || e != api.OK {
			t.Errorf("%s: %v, %d, want %v", name, x, e, want)
		}
	}
}

// state is some(id) in a state, with its Out.
func state(id, state int, out api.Hook) api.Circuit {
	x := some(id)
	x.State, x.Out = state, out
	return x
}

// P18.1: nothing is there at first.
func TestNew(t *testing.T) {
	(&plain{}).check(t, New())
	if a, b := New(), New(); a.Open(some(1)) != api.OK || b.Len() != 0 {
		t.Error("two new ones are one")
	}
}

// P18.1: what is kept of what is opened, and what is not.
func TestOpen(t *testing.T) {
	c, x := New(), some(1)
	x.Out.Id, x.State, x.Secret, x.Reason = 5, api.CircuitPaid, secretOf(1), []byte("why")
	wantErr(t, "Open", c.Open(x), api.OK)
	wantIs(t, "opened", c, hook(2, 1), state(1, api.CircuitWaiting, hook(9, 0)))
	// Nothing is on its way out yet.
	for _, id := range []int{0, 5} {
		if y, ok := c.Out(hook(9, id)); ok || !same(y, api.Circuit{}) {
			t.Error("Out", y)
		}
	}
	x.Amount, x.Out.Channel = 99, 4
	wantErr(t, "Open of the same In", c.Open(x), api.ErrTwice)
	wantIs(t, "as it was", c, hook(2, 1), state(1, api.CircuitWaiting, hook(9, 0)))
}

// P18.1: what may not be opened, and what just may.
func TestOpenArg(t *testing.T) {
	for name, change := range map[string]func(x *api.Circuit){
		"In's channel 0":    func(x *api.Circuit) { x.In.Channel = 0 },
		"In's channel -1":   func(x *api.Circuit) { x.In.Channel = math.MinInt },
		"Out's channel 0":   func(x *api.Circuit) { x.Out.Channel = 0 },
		"Out's channel -1":  func(x *api.Circuit) { x.Out.Channel = -1 },
		"In's id -1":        func(x *api.Circuit) { x.In.Id = -1 },
		"an amount of 0":    func(x *api.Circuit) { x.Amount = 0 },
		"an amount of -1":   func(x *api.Circuit) { x.Amount = math.MinInt },
		"a hash of zeros":   func(x *api.Circuit) { x.Hash = [32]byte{} },
		"nothing":           func(x *api.Circuit) { *x = api.Circuit{} },
		"nothing but an In": func(x *api.Circuit) { *x = api.Circuit{In: x.In} },
	} {
		c, x := New(), some(1)
		change(&x)
		wantErr(t, name, c.Open(x), api.ErrArg)
		(&plain{}).check(t, c)
	}
	for name, change := range map[string]func(x *api.Circuit){
		"the least": func(x *api.Circuit) { x.In, x.Out, x.Amount = hook(1, 0), hook(1, 0), 1 },
		"the greatest": func(x *api.Circuit) {
			x.In, x.Out, x.Amount = hook(math.MaxInt, math.MaxInt), hook(math.MaxInt, 0), math.MaxInt
		},
		"any Expiry":       func(x *api.Circuit) { x.Expiry = math.MinInt },
		"no key":           func(x *api.Circuit) { x.Key = [32]byte{} },
		"Out's id below 0": func(x *api.Circuit) { x.Out.Id = -1 },
	} {
		c, x := New(), some(1)
		change(&x)
		wantErr(t, name, c.Open(x), api.OK)
		x.State, x.Out.Id = api.CircuitWaiting, 0
		wantIs(t, name, c, x.In, x)
	}
}

// P18.1: at MaxCircuits it is full; which error comes first.
func TestFull(t *testing.T) {
	c, p := New(), &plain{}
	for id := range api.MaxCircuits {
		wantErr(t, "Open", c.Open(some(id)), p.open(some(id)))
	}
	wantErr(t, "full", c.Open(some(1000)), api.ErrFull)
	wantErr(t, "full, and twice", c.Open(some(255)), api.ErrTwice)
	wrong := some(3)
	wrong.Amount = 0
	wantErr(t, "full, twice and wrong", c.Open(wrong), api.ErrArg)
	p.check(t, c)
	c.Refuse(hook(2, 7), nil)
	p.refuse(hook(2, 7), nil)
	wantErr(t, "full of one that is failed", c.Open(some(1000)), api.ErrFull)
	c.Done(hook(2, 7))
	p.done(hook(2, 7))
	wantErr(t, "one is gone", c.Open(some(1000)), p.open(some(1000)))
	wantErr(t, "full again", c.Open(some(1001)), api.ErrFull)
	p.check(t, c)
}

// P18.1: what Sent refuses, the first error first.
func TestSent(t *testing.T) {
	c := opened(t, 1, 2, 3)
	wantErr(t, "none", c.Sent(hook(2, 9), 4), api.ErrNone)
	wantErr(t, "none, and below 0", c.Sent(hook(9, 1), -1), api.ErrNone)
	wantErr(t, "below 0", c.Sent(hook(2, 1), -1), api.ErrArg)
	wantErr(t, "far below 0", c.Sent(hook(2, 1), math.MinInt), api.ErrArg)
	wantIs(t, "refused", c, hook(2, 1), state(1, api.CircuitWaiting, hook(9, 0)))
	wantErr(t, "0", c.Sent(hook(2, 1), 0), api.OK)
	wantIs(t, "sent", c, hook(2, 1), state(1, api.CircuitSent, hook(9, 0)))
	wantErr(t, "again", c.Sent(hook(2, 1), 0), api.ErrState)
	wantErr(t, "again, below 0", c.Sent(hook(2, 1), -1), api.ErrState)
	wantErr(t, "another one's", c.Sent(hook(2, 2), 0), api.ErrTwice)
	wantIs(t, "refused", c, hook(2, 2), state(2, api.CircuitWaiting, hook(9, 0)))
	wantErr(t, "the greatest", c.Sent(hook(2, 2), math.MaxInt), api.OK)
	wantIs(t, "sent", c, hook(2, 2), state(2, api.CircuitSent, hook(9, math.MaxInt)))
	other := some(4)
	other.Out.Channel = 8
	wantErr(t, "Open", c.Open(other), api.OK)
	wantErr(t, "the same id of another channel", c.Sent(hook(2, 4), 0), api.OK)
	for out, id := range map[api.Hook]int{hook(9, 0): 1, hook(9, math.MaxInt): 2, hook(8, 0): 4} {
		if x, ok := c.Out(out); !ok || x.In != hook(2, id) {
			t.Error("Out", out, x, ok)
		}
	}
}

// P18.1: an Out is free again when what had it is failed, or gone; not when it is paid.
func TestOutAgain(t *testing.T) {
	c := opened(t, 1, 2, 3)
	c.Sent(hook(2, 1), 5)
	c.Failed(hook(9, 5), nil)
	wantErr(t, "behind a failed one", c.Sent(hook(2, 2), 5), api.OK)
	c.Paid(hook(9, 5), secretOf(2))
	wantErr(t, "while it is paid", c.Sent(hook(2, 3), 5), api.ErrTwice)
	wantErr(t, "Done of the failed one", c.Done(hook(2, 1)), api.OK)
	if x, ok := c.Out(hook(9, 5)); !ok || x.In != hook(2, 2) {
		t.Error("Out behind Done of another one", x, ok)
	}
	wantErr(t, "Done of the paid one", c.Done(hook(2, 2)), api.OK)
	wantErr(t, "behind a paid one that is gone", c.Sent(hook(2, 3), 5), api.OK)
}

// P18.2, P18.4: paid, again and again, and never failed then; the document's example.
func TestPaid(t *testing.T) {
	c := opened(t, 1, 2)
	refused(t, "not sent", api.ErrNone)(c.Paid(hook(9, 0), secretOf(1)))
	refused(t, "no Out", api.ErrNone)(c.Paid(hook(0, 0), secretOf(1)))
	c.Sent(hook(2, 1), 3)
	refused(t, "its In", api.ErrNone)(c.Paid(hook(2, 1), secretOf(1)))
	refused(t, "another secret", api.ErrSecret)(c.Paid(hook(9, 3), secretOf(2)))
	refused(t, "the hash", api.ErrSecret)(c.Paid(hook(9, 3), hashOf(1)))
	wantIs(t, "refused", c, hook(2, 1), state(1, api.CircuitSent, hook(9, 3)))
	paid := state(1, api.CircuitPaid, hook(9, 3))
	paid.Secret = secretOf(1)
	for range 3 {
		wantTold(t, "paid", paid)(c.Paid(hook(9, 3), secretOf(1)))
		wantIs(t, "paid", c, hook(2, 1), paid)
		refused(t, "another secret", api.ErrSecret)(c.Paid(hook(9, 3), secretOf(2)))
		refused(t, "Failed", api.ErrState)(c.Failed(hook(9, 3), []byte("no")))
		refused(t, "Refuse", api.ErrState)(c.Refuse(hook(2, 1), []byte("no")))
		wantErr(t, "Sent", c.Sent(hook(2, 1), 4), api.ErrState)
	}
	if x, ok := c.Out(hook(9, 3)); !ok || !same(x, paid) {
		t.Error("a paid one is on its way out", x, ok)
	}
}

// P18.2, P18.4: failed, and never paid then.
func TestFailed(t *testing.T) {
	c := opened(t, 1, 2)
	refused(t, "not sent", api.ErrNone)(c.Failed(hook(9, 0), nil))
	c.Sent(hook(2, 1), 3)
	refused(t, "another one", api.ErrNone)(c.Failed(hook(9, 4), nil))
	failed := state(1, api.CircuitFailed, api.Hook{})
	failed.Reason = []byte("no way")
	wantTold(t, "failed", failed)(c.Failed(hook(9, 3), []byte("no way")))
	wantIs(t, "failed", c, hook(2, 1), failed)
	refused(t, "Failed again", api.ErrNone)(c.Failed(hook(9, 3), []byte("no")))
	refused(t, "Paid", api.ErrNone)(c.Paid(hook(9, 3), secretOf(1)))
	refused(t, "Paid at zeros", api.ErrNone)(c.Paid(api.Hook{}, secretOf(1)))
	refused(t, "Failed at zeros", api.ErrNone)(c.Failed(api.Hook{}, nil))
	refused(t, "Refuse", api.ErrState)(c.Refuse(hook(2, 1), nil))
	wantErr(t, "Sent", c.Sent(hook(2, 1), 3), api.ErrState)
	for _, out := range []api.Hook{hook(9, 3), {}} {
		if x, ok := c.Out(out); ok || !same(x, api.Circuit{}) {
			t.Error("a failed one is on its way out", x)
		}
	}
	c.Sent(hook(2, 2), 3)
	wantTold(t, "without a reason", state(2, api.CircuitFailed, api.Hook{}))(c.Failed(hook(9, 3), []byte{}))
}

// P18.2: refused while it waits, and then alone.
func TestRefuse(t *testing.T) {
	c := opened(t, 1, 2)
	refused(t, "none", api.ErrNone)(c.Refuse(hook(9, 0), nil))
	failed := state(1, api.CircuitFailed, api.Hook{})
	failed.Reason = make([]byte, 1000)
	wantTold(t, "refused", failed)(c.Refuse(hook(2, 1), make([]byte, 1000)))
	wantIs(t, "refused", c, hook(2, 1), failed)
	refused(t, "again", api.ErrState)(c.Refuse(hook(2, 1), nil))
	wantErr(t, "Sent", c.Sent(hook(2, 1), 3), api.ErrState)
	c.Sent(hook(2, 2), 3)
	refused(t, "sent", api.ErrState)(c.Refuse(hook(2, 2), nil))
	wantIs(t, "sent", c, hook(2, 2), state(2, api.CircuitSent, hook(9, 3)))
}

// P18.3: what is done is gone, and may come anew.
func TestDone(t *testing.T) {
	c := opened(t, 1, 2, 3)
	wantErr(t, "none", c.Done(hook(9, 9)), api.ErrNone)
	wantErr(t, "waiting", c.Done(hook(2, 1)), api.ErrState)
	c.Sent(hook(2, 1), 3)
	wantErr(t, "sent", c.Done(hook(2, 1)), api.ErrState)
	c.Paid(hook(9, 3), secretOf(1))
	wantErr(t, "paid", c.Done(hook(2, 1)), api.OK)
	wantErr(t, "again", c.Done(hook(2, 1)), api.ErrNone)
	wantIs(t, "gone", c, hook(2, 1), api.Circuit{})
	refused(t, "Paid", api.ErrNone)(c.Paid(hook(9, 3), secretOf(1)))
	c.Refuse(hook(2, 2), nil)
	wantErr(t, "failed", c.Done(hook(2, 2)), api.OK)
	if c.Len() != 1 {
		t.Error("Len", c.Len())
	}
	wantErr(t, "anew", c.Open(some(1)), api.OK)
	wantIs(t, "anew", c, hook(2, 1), state(1, api.CircuitWaiting, hook(9, 0)))
}

// P18.3: of nothing that New made.
func TestNil(t *testing.T) {
	for _, c := range []*Circuits{nil, {}} {
		wantErr(t, "Open", c.Open(some(1)), api.ErrClosed)
		wantErr(t, "Open of nothing", c.Open(api.Circuit{}), api.ErrClosed)
		wantErr(t, "Sent", c.Sent(hook(2, 1), 1), api.ErrClosed)
		refused(t, "Paid", api.ErrClosed)(c.Paid(hook(2, 1), secretOf(1)))
		refused(t, "Failed", api.ErrClosed)(c.Failed(hook(2, 1), nil))
		refused(t, "Refuse", api.ErrClosed)(c.Refuse(hook(2, 1), nil))
		wantErr(t, "Done", c.Done(hook(2, 1)), api.ErrClosed)
		if c.Fork() != nil {
			t.Error("Fork")
		}
		(&plain{}).check(t, c)
		if _, ok := c.Get(hook(2, 1)); ok {
			t.Error("Get")
		}
		if _, ok := c.Out(hook(2, 1)); ok {
			t.Error("Out")
		}
	}
}

package circuits

import (
	"bytes"
	"testing"

	"tollhouse/api"
)

// ins is where all circuits came from, in the order of All.
func ins(c *Circuits) []api.Hook {
	var l []api.Hook
	for x := range c.All() {
		l = append(l, x.In)
	}
	return l
}

// P18.3: All rises by the channel, then by the id, whatever the order in which they were opened.
func TestOrder(t *testing.T) {
	want := []api.Hook{hook(1, 0), hook(1, 9), hook(1, 10), hook(2, 0), hook(2, 5), hook(10, 0), hook(10, 1), hook(1<<40, 3)}
	for _, order := range [][]int{{0, 1, 2, 3, 4, 5, 6, 7}, {7, 6, 5, 4, 3, 2, 1, 0}, {3, 7, 1, 0, 6, 2, 5, 4}} {
		c := New()
		for _, i := range order {
			x := some(1)
			x.In = want[i]
			wantErr(t, "Open", c.Open(x), api.OK)
		}
		got := ins(c)
		for i := range want {
			if len(got) != len(want) || got[i] != want[i] {
				t.Fatal("All", got)
			}
		}
	}
}

// R5: an iterator may be stopped, begins anew, and is as the circuits are when it is ranged over.
func TestIterator(t *testing.T) {
	c := opened(t, 1, 2, 3)
	all := c.All()
	for stop := range 4 {
		var got []api.Hook
		for x := range all {
			if len(got) == stop {
				break
			}
			got = append(got, x.In)
		}
		if len(got) != min(stop, 3) {
			t.Error("stopped behind", stop, got)
		}
	}
	c.Open(some(0))
	c.Refuse(hook(2, 2), nil)
	c.Done(hook(2, 2))
	var got []api.Hook
	for x := range all {
		got = append(got, x.In)
	}
	if len(got) != 3 || got[0] != hook(2, 0) || got[1] != hook(2, 1) || got[2] != hook(2, 3) {
		t.Error("ranged over again", got)
	}
	// Two at once do not get in each other's way.
	pairs := 0
	for range all {
		for range all {
			pairs++
		}
	}
	if pairs != 9 {
		t.Error("pairs", pairs)
	}
}

// P18.3, R3: a fork is the same, and goes its own way.
func TestFork(t *testing.T) {
	c := opened(t, 1, 2, 3)
	c.Sent(hook(2, 1), 1)
	c.Refuse(hook(2, 2), []byte("no"))
	p := &plain{}
	for x := range c.All() {
		p.all = append(p.all, x)
	}
	fork := c.Fork()
	if fork == c {
		t.Fatal("a fork is another one")
	}
	p.check(t, fork)
	c.Failed(hook(9, 1), []byte("late"))
	c.Done(hook(2, 2))
	c.Open(some(4))
	c.Sent(hook(2, 3), 7)
	p.check(t, fork)
	q := &plain{}
	for x := range c.All() {
		q.all = append(q.all, x)
	}
	fork.Paid(hook(9, 1), secretOf(1))
	fork.Sent(hook(2, 3), 9)
	fork.Done(hook(2, 2))
	fork.Open(some(5))
	q.check(t, c)
	if fork.Len() != 3 {
		t.Error("Len", fork.Len())
	}
}

// P18.3: a fork of none is none, and may be used.
func TestForkEmpty(t *testing.T) {
	fork := New().Fork()
	(&plain{}).check(t, fork)
	wantErr(t, "Open", fork.Open(some(1)), api.OK)
	wantErr(t, "Sent", fork.Sent(hook(2, 1), 1), api.OK)
}

// roomy is l with room behind its end, filled.
func roomy(l []byte) []byte {
	return append(append(make([]byte, 0, len(l)+4), l...), 8, 8, 8, 8)[:len(l)]
}

// spoil writes over a list, and over the room behind it.
func spoil(b []byte) {
	b = b[:cap(b)]
	for i := range b {
		b[i] = 99
	}
}

// R3: reasons that are handed in, or answered, are nobody else's.
func TestMemory(t *testing.T) {
	why := []byte("why")
	c := opened(t, 1, 2)
	c.Sent(hook(2, 1), 1)
	for id, fail := range map[int]func(reason []byte) (api.Circuit, api.Errno){
		1: func(reason []byte) (api.Circuit, api.Errno) { return c.Failed(hook(9, 1), reason) },
		2: func(reason []byte) (api.Circuit, api.Errno) { return c.Refuse(hook(2, 2), reason) },
	} {
		reason := roomy(why)
		x, _ := fail(reason)
		if !bytes.Equal(reason, why) || !bytes.Equal(reason[:7], []byte("why\x08\x08\x08\x08")) {
			t.Error("the reason was changed", id)
		}
		spoil(reason)
		if !bytes.Equal(x.Reason, why) {
			t.Error("the answer shares the reason", id)
		}
		fork := c.Fork()
		spoil(x.Reason)
		for range 2 {
			x, _ = c.Get(hook(2, id))
			if !bytes.Equal(x.Reason, why) {
				t.Error("Get", id, x.Reason)
			}
			spoil(x.Reason)
			for y := range c.All() {
				if y.In == hook(2, id) && !bytes.Equal(y.Reason, why) {
					t.Error("All", id, y.Reason)
				}
				spoil(y.Reason)
			}
		}
		if x, _ = fork.Get(hook(2, id)); !bytes.Equal(x.Reason, why) {
			t.Error("the fork", id, x.Reason)
		}
		spoil(x.Reason)
		if x, _ = c.Get(hook(2, id)); !bytes.Equal(x.Reason, why) {
			t.Error("shared with the fork", id, x.Reason)
		}
	}
}

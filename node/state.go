package node

import (
	"cmp"
	"maps"
	"slices"

	"tollhouse/api"
	"tollhouse/channel"
	"tollhouse/circuits"
	"tollhouse/deal"
	"tollhouse/graph"
	"tollhouse/mac"
	"tollhouse/registry"
	"tollhouse/split"
	"tollhouse/wire"
)

// state is what a node's inputs made of it.
type state struct {
	config   api.Config
	key      [32]byte // on the chain
	onionKey [32]byte
	height   int
	tick     int
	links    map[int]*link // the node's own channels, by their numbers
	numbers  []int         // of these, rising
	registry *registry.Registry
	payments *split.Payments
	circuits *circuits.Circuits
	graph    *graph.Graph
	told     map[[32]byte][32]byte // secrets that may be shown, by their hashes: no invoice's is among them till it is paid
	packets  map[api.Hook][32]byte // the keys of the packets of HTLCs that the registry holds
	ends     map[api.Hook]end      // what is to be done with HTLCs that came
	offers   map[api.Hook]offer    // the node's own HTLCs that are on their way
	waiting  []offer               // those that wait till their channels are ready
	full     map[int]int           // while an input is done: the least amount that a channel refused
	out      api.Output            // of the input that is being done
}

// end is what becomes of an HTLC that came: it is paid, or failed.
type end struct {
	pay    bool
	secret [32]byte
	reason []byte
}

// newState is a node without inputs.
func newState(c api.Config) state {
	c.Terms, c.Rules = slices.Clone(c.Terms), slices.Clone(c.Rules)
	// Nothing is refused: the configuration may be.
	invoices, _ := registry.New(c.Node, c.Rules[c.Node], c.Wait)
	s := state{
		config:   c,
		key:      Key(c.Seed, c.Node),
		onionKey: Onion(c.Seed, c.Node),
		links:    map[int]*link{},
		registry: invoices,
		payments: split.New(c.Node),
		circuits: circuits.New(),
		graph:    graph.New(),
		told:     map[[32]byte][32]byte{},
		packets:  map[api.Hook][32]byte{},
		ends:     map[api.Hook]end{},
		offers:   map[api.Hook]offer{},
	}
	for _, t := range c.Terms {
		s.graph.Set(edgeOf(c, t, t.A))
		s.graph.Set(edgeOf(c, t, t.B))
		if deal.Other(t, c.Node) >= 0 {
			ch, _ := channel.New(t, Party(c.Seed, t, c.Node))
			s.links[t.Channel] = &link{Channel: ch, terms: t, open: true}
		}
	}
	s.numbers = slices.Sorted(maps.Keys(s.links))
	return s
}

// edgeOf is the channel of t, from one of the two on, as everybody knows it.
func edgeOf(c api.Config, t api.Terms, from int) api.Edge {
	return api.Edge{Channel: t.Channel, From: from, To: deal.Other(t, from), Capacity: t.StartA + t.StartB, Rules: c.Rules[from]}
}

// do does an input, and then all that can be done.
func (s *state) do(in api.Input) api.Output {
	s.out, s.full = api.Output{}, map[int]int{}
	s.out.Answer = s.take(in)
	s.sendWaiting()
	s.settle()
	s.each(s.sign)
	out := s.out
	s.out, s.full = api.Output{}, nil
	return out
}

// take does what is done with an input of its kind.
func (s *state) take(in api.Input) api.Errno {
	switch in.Kind {
	case api.InStart:
		s.each(s.down)
	case api.InUp:
		s.each(s.with(in.Peer, s.up))
	case api.InDown:
		s.each(s.with(in.Peer, s.down))
	case api.InMsg:
		return s.hear(in.Peer, in.Bytes)
	case api.InTick:
		s.tick = min(s.tick+1, api.MaxExpiry)
		s.act(s.registry.Tick(s.height, s.tick))
	case api.InBlock:
		return s.block(in.Height, in.Txs)
	case api.InInvoice:
		return s.invoice(in)
	case api.InPay:
		return s.pay(in.Text, in.Amount)
	case api.InSettle:
		acts, e := s.registry.Settle(in.Hash, in.Secret)
		s.act(acts)
		return e
	case api.InCancel:
		acts, e := s.registry.Cancel(in.Secret)
		s.act(acts)
		return e
	case api.InClose:
		return s.close(in.Number)
	}
	return api.OK
}

// each does something with each link, by rising numbers.
func (s *state) each(do func(l *link)) {
	for _, number := range s.numbers {
		do(s.links[number])
	}
}

// with does something with the links that are open, and with a peer.
func (s *state) with(peer int, do func(l *link)) func(l *link) {
	return func(l *link) {
		if l.open && l.Peer() == peer {
			do(l)
		}
	}
}

// say tells the other one of a link something.
func (s *state) say(l *link, m api.Msg) {
	// Nothing is refused: a channel's messages may be.
	b, _ := wire.Encode(m)
	s.out.Msgs = append(s.out.Msgs, api.Sent{To: l.Peer(), Bytes: b})
}

// tell is that the node may show a secret from now on.
func (s *state) tell(secret [32]byte) {
	s.told[mac.Hash(secret)] = secret
}

// rules is the node's own.
func (s *state) rules() api.Rules {
	return s.config.Rules[s.config.Node]
}

// inOrder is the keys of m, by rising Channels and Ids.
func inOrder[V any](m map[api.Hook]V) []api.Hook {
	return slices.SortedFunc(maps.Keys(m), func(a, b api.Hook) int {
		return cmp.Or(cmp.Compare(a.Channel, b.Channel), cmp.Compare(a.Id, b.Id))
	})
}

// turned is x and y, in the other order if round.
func turned[T any](round bool, x, y T) (T, T) {
	if round {
		return y, x
	}
	return x, y
}

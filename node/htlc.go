package node

import (
	"tollhouse/api"
	"tollhouse/onion"
	"tollhouse/policy"
)

// offer is an HTLC of the node's own: what a channel is asked to take, and where it comes from: a circuit, or a try.
type offer struct {
	channel int
	amount  int
	expiry  int
	hash    [32]byte
	packet  []byte
	from    api.Hook // zeros, if it is a try's
	payment [32]byte
	number  int
	since   int // the tick from which on it waits
}

// isTry tells whether o is the node's own payment's, and not handed on.
func (o offer) isTry() bool {
	return o.from == api.Hook{}
}

// come takes an HTLC that came and may not be taken back any more.
func (s *state) come(note api.Note) {
	in := hookOf(note)
	key, _ := onion.Key(s.onionKey, note.Onion)
	hop, next, e := onion.Peel(s.onionKey, note.Onion, note.Hash)
	switch {
	case e != api.OK:
		s.ends[in] = failure(key, api.ReasonOnion)
	case hop.Channel == 0:
		s.packets[in] = key
		p := api.Part{In: in, Amount: note.Amount, Expiry: note.Expiry, Hash: note.Hash, Hop: hop}
		s.act(s.registry.Take(p, s.height, s.tick))
	default:
		x := api.Circuit{In: in, Out: api.Hook{Channel: hop.Channel}, Amount: note.Amount, Expiry: note.Expiry, Hash: note.Hash, Key: key}
		s.handOn(x, hop, next)
	}
}

// handOn hands on what came as x, as its onion says, or fails it.
func (s *state) handOn(x api.Circuit, hop api.Hop, next []byte) {
	if reason := policy.Forward(s.rules(), hop, x.Amount, x.Expiry, s.height); reason != 0 {
		s.ends[x.In] = failure(x.Key, reason)
		return
	}
	if s.circuits.Open(x) != api.OK {
		s.ends[x.In] = failure(x.Key, api.ReasonNext)
		return
	}
	o := offer{channel: hop.Channel, amount: hop.Amount, expiry: hop.Expiry, hash: x.Hash, packet: next, from: x.In}
	if !s.offer(o) {
		s.refuse(o, api.ReasonNext)
	}
}

// act does what the registry says.
func (s *state) act(acts []api.Act) {
	for _, a := range acts {
		if a.Pay {
			s.tell(a.Secret)
			s.ends[a.In] = end{pay: true, secret: a.Secret}
		} else {
			s.ends[a.In] = failure(s.packets[a.In], a.Reason)
		}
		delete(s.packets, a.In)
	}
}

// offer lets the channel of o take it, or lets o wait till it can: where the other one is there, but did not say so yet. It tells whether one of the two was done.
func (s *state) offer(o offer) bool {
	l := s.links[o.channel]
	switch {
	case l == nil || !l.open || !l.up:
		return false
	case !l.Ready():
		s.wait(o)
		return true
	}
	return s.send(l, o)
}

// wait lets o wait.
func (s *state) wait(o offer) {
	o.since = s.tick
	s.waiting = append(s.waiting, o)
}

// send lets a channel that is ready take o, and tells whether it did.
func (s *state) send(l *link, o offer) bool {
	if l.worn() {
		return false
	}
	id, m, e := l.Add(o.amount, o.expiry, o.hash, o.packet)
	if e != api.OK {
		s.refused(o)
		return false
	}
	s.say(l, m)
	s.offers[api.Hook{Channel: o.channel, Id: id}] = o
	if !o.isTry() {
		s.circuits.Sent(o.from, id)
	}
	return true
}

// refused is that a channel did not take o: nor will it take more, while this input is done.
func (s *state) refused(o offer) {
	if least, ok := s.full[o.channel]; !ok || o.amount < least {
		s.full[o.channel] = o.amount
	}
}

// worn tells whether no further commitment of the other one can be signed: what is added then would never be sure.
func (l *link) worn() bool {
	last, _ := l.Others()
	if next, _, ok := l.Pending(); ok {
		last = next
	}
	return last.Number >= api.MaxSecrets-3
}

// refuse fails an offer that no channel took.
func (s *state) refuse(o offer, reason int) {
	if o.isTry() {
		s.retry(o, nowhere, reason)
		return
	}
	x, _ := s.circuits.Get(o.from)
	failed := failure(x.Key, reason)
	s.circuits.Refuse(o.from, failed.reason)
	s.ends[o.from] = failed
}

// paid is that one of the node's own HTLCs is known to be paid.
func (s *state) paid(out api.Hook, secret [32]byte) {
	s.tell(secret)
	o, ok := s.offers[out]
	if !ok {
		return
	}
	delete(s.offers, out)
	if o.isTry() {
		s.payments.Paid(s.graph, o.payment, o.number, secret, s.now())
		return
	}
	s.circuits.Paid(out, secret)
	s.ends[o.from] = end{pay: true, secret: secret}
}

// failed is that one of the node's own HTLCs failed for good, for a reason that the other one told.
func (s *state) failed(out api.Hook, reason []byte) {
	o, ok := s.offers[out]
	if !ok {
		return
	}
	if o.isTry() {
		delete(s.offers, out)
		hop, why := s.blame(o, reason)
		s.retry(o, hop, why)
		return
	}
	x, _ := s.circuits.Out(out)
	wrapped, e := onion.Wrap(x.Key, reason)
	if e != api.OK {
		// The payer could not make anything of it: it is told where that was.
		s.lost(out)
		return
	}
	s.giveBack(out, end{reason: wrapped})
}

// lost is that one of the node's own HTLCs is gone, for no reason that the other one told.
func (s *state) lost(out api.Hook) {
	o, ok := s.offers[out]
	if !ok {
		return
	}
	if o.isTry() {
		delete(s.offers, out)
		s.retry(o, nowhere, api.ReasonNext)
		return
	}
	x, _ := s.circuits.Out(out)
	s.giveBack(out, failure(x.Key, api.ReasonNext))
}

// giveBack fails what was handed on as out.
func (s *state) giveBack(out api.Hook, x end) {
	s.circuits.Failed(out, x.reason)
	s.ends[s.offers[out].from] = x
	delete(s.offers, out)
}

// dropped is that one of the node's own HTLCs was never signed: it waits till its channel is ready again.
func (s *state) dropped(out api.Hook) {
	o, ok := s.offers[out]
	if !ok {
		return
	}
	delete(s.offers, out)
	if !o.isTry() {
		// As if it had not been handed on yet.
		x, _ := s.circuits.Failed(out, nil)
		s.circuits.Done(x.In)
		x.Out = api.Hook{Channel: o.channel}
		s.circuits.Open(x)
	}
	s.wait(o)
}

// sendWaiting offers anew what waits, where its channel is ready, and fails what cannot wait any more.
func (s *state) sendWaiting() {
	waiting := s.waiting
	s.waiting = nil
	for _, o := range waiting {
		l, reason := s.links[o.channel], s.late(o)
		switch {
		case reason != 0:
			s.refused(o)
			s.refuse(o, reason)
		case !l.Ready():
			s.waiting = append(s.waiting, o)
		case !s.send(l, o):
			s.refuse(o, api.ReasonNext)
		}
	}
}

// late is why o waits no more; 0, if it does. It waits no longer than a set would, for which it may be.
func (s *state) late(o offer) int {
	switch {
	case !s.links[o.channel].open || s.tick-o.since >= s.config.Wait:
		return api.ReasonNext
	case !o.isTry():
		return s.lateCircuit(o)
	case o.expiry <= s.height:
		return api.ReasonSoon
	}
	return 0
}

// lateCircuit is why what came may not be handed on any more as o; 0, if it may.
func (s *state) lateCircuit(o offer) int {
	if !s.links[o.from.Channel].open {
		return api.ReasonNext
	}
	x, _ := s.circuits.Get(o.from)
	hop := api.Hop{Channel: o.channel, Amount: o.amount, Expiry: o.expiry}
	return policy.Forward(s.rules(), hop, x.Amount, x.Expiry, s.height)
}

// failure is how an HTLC is failed for a reason of the node's own, with the key of its packet.
func failure(key [32]byte, reason int) end {
	// Nothing is refused: it is one byte, which is not 0.
	b, _ := onion.Fail(key, []byte{byte(reason)})
	return end{reason: b}
}

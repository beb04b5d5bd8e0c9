package channel

import (
	"math/rand"
	"reflect"
	"testing"

	"tollhouse/api"
	"tollhouse/deal"
	"tollhouse/secrets"
	"tollhouse/wire"
)

// walk is a pair, what the document's words make of the same calls, and what was seen on the way.
type walk struct {
	*pair
	r      *rand.Rand
	plain  [2]*plain
	secret int                 // of the last Add
	added  [2]map[[32]byte]int // how often an Add was noted, by its hash
	told   map[string]int
}

func newWalk(t *testing.T, seed int, told map[string]int) *walk {
	r := rand.New(rand.NewSource(int64(seed)))
	p := newPair(t, func(d *api.Terms) {
		d.Slots = 1 + r.Intn(6)
		d.Flight = []int{300, 900, api.MaxMsat}[r.Intn(3)]
		d.Fee, d.Reserve = r.Intn(20), r.Intn(50)
	})
	w := &walk{pair: p, r: r, told: told, added: [2]map[[32]byte]int{{}, {}}}
	for i := range w.plain {
		w.plain[i] = newPlain(p.terms, party(i))
	}
	return w
}

// count counts an answer, so that it is known what was seen.
func (w *walk) count(name string, e api.Errno) {
	w.told[name+errName(e)]++
}

func errName(e api.Errno) string {
	return " " + map[api.Errno]string{api.OK: "OK", api.ErrArg: "Arg", api.ErrLong: "Long", api.ErrNone: "None", api.ErrTwice: "Twice",
		api.ErrClash: "Clash", api.ErrSlots: "Slots", api.ErrFlight: "Flight", api.ErrReserve: "Reserve", api.ErrSecret: "Secret",
		api.ErrDown: "Down", api.ErrEarly: "Early", api.ErrBroken: "Broken"}[e]
}

func (w *walk) doAdd(i int) {
	w.secret++
	n := w.secret
	sum, onion := 1+w.r.Intn(400), onionOf(n)
	if w.r.Intn(20) == 0 {
		sum = []int{0, -1, api.MaxMsat, 10000}[w.r.Intn(4)]
	}
	if w.r.Intn(40) == 0 {
		onion = onion[1:]
	}
	id, m, e := w.c[i].Add(sum, 40+n, hashOf(n), onion)
	wantId, want, f := w.plain[i].add(sum, 40+n, hashOf(n), onion)
	if id != wantId || !sameMsg(m, want) || e != f {
		w.t.Fatalf("Add = %d, %d, want %d, %d", id, e, wantId, f)
	}
	if e == api.OK {
		w.queue[1-i] = append(w.queue[1-i], m)
	}
	w.count("Add", e)
}

func (w *walk) doSettle(i int) {
	x := w.plain[i]
	id := w.r.Intn(3) - 1
	if n := len(x.others); n > 0 && w.r.Intn(10) > 0 {
		id = x.others[n-1-w.r.Intn(min(n, 8))].Id
	}
	secret := secretOf(0)
	for n := range w.secret {
		if at := plainAdd(x.others, id); at >= 0 && x.others[at].Hash == hashOf(n+1) && w.r.Intn(15) > 0 {
			secret = secretOf(n + 1)
		}
	}
	reason := make([]byte, w.r.Intn(4))
	if w.r.Intn(10) == 0 {
		reason = make([]byte, api.MaxReason+w.r.Intn(2))
	}
	var m, want api.Msg
	var e, f api.Errno
	name := "Fail"
	if w.r.Intn(2) == 0 {
		name = "Fulfil"
		m, e = w.c[i].Fulfil(id, secret)
		want, f = x.settle(api.Msg{Kind: api.MsgFulfil, Id: id, Secret: secret})
	} else {
		m, e = w.c[i].Fail(id, reason)
		want, f = x.settle(api.Msg{Kind: api.MsgFail, Id: id, Reason: reason})
	}
	if e != f || !sameMsg(m, want) {
		w.t.Fatalf("%s = %v, %d, want %v, %d", name, m, e, want, f)
	}
	if e == api.OK {
		w.queue[1-i] = append(w.queue[1-i], m)
	}
	w.count(name, e)
}

func (w *walk) doSign(i int) {
	m, ok := w.c[i].Sign()
	want, wantOk := w.plain[i].sign()
	if ok != wantOk || !sameMsg(m, want) {
		w.t.Fatalf("Sign = %v, %v, want %v, %v", m, ok, want, wantOk)
	}
	if ok {
		w.queue[1-i] = append(w.queue[1-i], m)
		w.told["Sign"]++
	}
}

func (w *walk) doUp(i int) {
	m, e := w.c[i].Up()
	want, f := w.plain[i].doUp()
	if e != f || !sameMsg(m, want) {
		w.t.Fatalf("Up = %v, %d, want %v, %d", m, e, want, f)
	}
	if e == api.OK {
		w.queue[1-i] = append(w.queue[1-i], m)
	}
	w.count("Up", e)
}

// doLose puts both down; at times one of them twice.
func (w *walk) doLose() {
	for i, c := range w.c {
		w.queue[i] = nil
		for range 1 + w.r.Intn(2) {
			notes, want := c.Down(), w.plain[i].doDown()
			if !sameNotes(notes, want) {
				w.t.Fatalf("Down = %v, want %v", notes, want)
			}
			w.told["dropped"] += len(notes)
		}
	}
}

// doHear lets i hear m.
func (w *walk) doHear(i int, m api.Msg) api.Errno {
	before := shape(w.c[i])
	answers, notes, e := w.c[i].On(m)
	wantAnswers, wantNotes, f := w.plain[i].on(m)
	if e != f || !sameMsgs(answers, wantAnswers) || !sameNotes(notes, wantNotes) {
		w.t.Fatalf("On of the kind %d = %v, %v, %d, want %v, %v, %d", m.Kind, answers, notes, e, wantAnswers, wantNotes, f)
	}
	if e != api.OK && !reflect.DeepEqual(shape(w.c[i]), before) {
		w.t.Fatalf("On of the kind %d changed something beside %d", m.Kind, e)
	}
	w.queue[1-i] = append(w.queue[1-i], answers...)
	for _, n := range notes {
		w.told["note "+string(rune('0'+n.Kind))]++
		if n.Kind == api.NoteAdd {
			w.added[i][n.Hash]++
			if w.added[i][n.Hash] > 1 {
				w.t.Fatal("an Add is noted twice")
			}
		}
	}
	if m.Kind == api.MsgHello && len(answers) > 1 {
		w.told["again, from the kind "+string(rune('0'+answers[0].Kind))]++
	}
	w.count("On "+string(rune('0'+m.Kind)), e)
	return e
}

func (w *walk) hearNext(i int) {
	if len(w.queue[i]) == 0 {
		return
	}
	m := w.queue[i][0]
	w.queue[i] = w.queue[i][1:]
	if e := w.doHear(i, m); e != api.OK {
		w.t.Fatalf("On of the kind %d: %d", m.Kind, e)
	}
}

// look asks all that there is to ask of i.
func (w *walk) look(i int) {
	c, x := w.c[i], w.plain[i]
	s, v := c.Own()
	want, _ := x.view(x.mine)
	if s != x.signed(x.mine) || !sameView(v, want) {
		w.t.Fatalf("Own = %v, %v, want %v, %v", s, v, x.signed(x.mine), want)
	}
	s, v = c.Others()
	want, _ = x.view(x.theirs)
	if s != x.signed(x.theirs) || !sameView(v, want) {
		w.t.Fatalf("Others = %v, %v, want %v, %v", s, v, x.signed(x.theirs), want)
	}
	s, v, ok := c.Pending()
	next := plainSigned{}
	want = api.View{}
	if x.pending != nil {
		next = *x.pending
		want, _ = x.view(next)
	}
	if s != x.signed(next) || !sameView(v, want) || ok != (x.pending != nil) {
		w.t.Fatalf("Pending = %v, %v, %v, want %v, %v", s, v, ok, x.signed(next), want)
	}
	if tx, e := c.Close(); e != api.OK || !reflect.DeepEqual(tx, x.closeTx()) {
		w.t.Fatalf("Close = %v, %d, want %v", tx, e, x.closeTx())
	}
	if c.Ready() != x.ready || c.Broken() != x.broken || c.Idle() != x.idle() || c.Terms() != x.t || c.Peer() != x.peer() {
		w.t.Fatal("Ready", c.Ready(), "Broken", c.Broken(), "Idle", c.Idle(), "want", x.ready, x.broken, x.idle())
	}
	for n := range len(x.told) + 2 {
		secret, ok := c.Revoked(n - 1)
		if there := n > 0 && n <= len(x.told); ok != there || there && secret != x.told[n-1] {
			w.t.Fatal("Revoked", n-1, ok)
		}
	}
	for id := range 40 {
		if c.Settled(id-1) != plainSettles(x.own, id-1) {
			w.t.Fatal("Settled", id-1)
		}
	}
}

// together asks for P16.8: i's commitment is one of those that the other one takes it for, it can be published, and nothing is lost.
func (w *walk) together(i int) {
	s, v := w.c[i].Own()
	o, ov := w.c[1-i].Others()
	if n, nv, ok := w.c[1-i].Pending(); ok && s.Number == o.Number+1 {
		o, ov = n, nv
	}
	if o.Number != s.Number || o.Own != s.Other || o.Other != s.Own || !sameView(v, ov) {
		w.t.Fatalf("commitment %v, %v, taken for %v, %v", s, v, o, ov)
	}
	if x := w.plain[1-i]; x.points[s.Number] != secrets.Point(seedOf(i), s.Number) {
		w.t.Fatal("its point")
	}
	sum := v.A + v.B
	for _, h := range v.Htlcs {
		sum += h.Amount
	}
	if sum != w.terms.StartA+w.terms.StartB || !deal.Fits(w.terms, v) {
		w.t.Fatal("sum", sum)
	}
	if w.c[i].Broken() {
		w.t.Fatal("broken")
	}
}

// act is something that users or the line may do.
func (w *walk) act() {
	i := w.r.Intn(2)
	switch n := w.r.Intn(40); {
	case n < 5:
		w.doAdd(i)
	case n < 10:
		w.doSettle(i)
	case n < 16:
		w.doSign(i)
	case n < 37:
		w.hearNext(i)
	case n < 39:
		// Who hears of the other one ahead of being up has lost what was said: both begin anew.
		if !w.c[0].up || !w.c[1].up {
			w.doLose()
			w.doUp(0)
			w.doUp(1)
		} else {
			w.doUp(i)
		}
	default:
		w.doLose()
	}
}

// P16.1 to P16.8: long rows of calls of two that keep to the rules, held against what the document's words make of them.
func TestAgainstPlain(t *testing.T) {
	told := map[string]int{}
	for seed := range 60 {
		w := newWalk(t, seed, told)
		for range 400 {
			w.act()
			for i := range w.c {
				w.look(i)
				w.together(i)
			}
		}
		tx, _ := w.c[seed%2].Close()
		if e := w.chain.Submit(tx); e != api.OK || len(w.chain.Block(nil)) != 1 {
			t.Fatal("the chain refuses a commitment", e)
		}
	}
	for name, least := range map[string]int{
		"Add OK": 500, "Add Down": 100, "Add Arg": 20, "Add Slots": 20, "Add Flight": 20, "Add Reserve": 20,
		"Fulfil OK": 100, "Fulfil None": 20, "Fulfil Early": 20, "Fulfil Secret": 5, "Fulfil Down": 20,
		"Fail OK": 100, "Fail None": 20, "Fail Early": 20, "Fail Long": 5, "Fail Down": 20,
		"Sign": 500, "Up OK": 200, "Up Twice": 20, "dropped": 100, "note 1": 200, "note 2": 100, "note 3": 100,
		"again, from the kind 5": 5, "again, from the kind 1": 5,
	} {
		if told[name] < least {
			t.Errorf("%s: seen only %d times", name, told[name])
		}
	}
}

// odd is m, or something like it that the other one may not say, likely.
func (w *walk) odd(m api.Msg) api.Msg {
	switch w.r.Intn(17) {
	case 0:
		m.Number += w.r.Intn(3) - 1
	case 1:
		m.Told += w.r.Intn(5) - 2
	case 2:
		m.Tag[3] ^= byte(w.r.Intn(2))
	case 3:
		m.Secret[2] ^= byte(w.r.Intn(2))
	case 4:
		m.Point = [32]byte{}
	case 5:
		m.Id += w.r.Intn(3) - 1
	case 6:
		m.Amount *= w.r.Intn(4)
	case 7:
		m.Channel++
	case 8:
		m.Kind = 1 + w.r.Intn(6)
		m = wire.Bare(m)
	case 9:
		m.Hash = [32]byte{}
	case 10:
		m = api.Msg{Kind: api.MsgFail, Channel: 3, Id: w.r.Intn(4)}
	case 11:
		m = api.Msg{Kind: api.MsgFulfil, Channel: 3, Id: w.r.Intn(4), Secret: secretOf(1 + w.r.Intn(w.secret+1))}
	case 12:
		m = api.Msg{Kind: api.MsgRevoke, Channel: 3, Number: w.r.Intn(2), Secret: secrets.At(seedOf(w.r.Intn(2)), w.r.Intn(2)), Point: [32]byte{1}}
	case 13:
		m = api.Msg{Kind: api.MsgHello, Channel: 3, Number: w.r.Intn(3), Told: w.r.Intn(3)}
	case 14:
		m.Id = -1
	}
	return m
}

// P16.4, P16.6: what the other one may not say breaks a channel, and changes nothing else.
func TestOddAgainstPlain(t *testing.T) {
	told := map[string]int{}
	for seed := range 2000 {
		w := newWalk(t, seed, told)
		for range 20 + w.r.Intn(150) {
			w.act()
		}
		i := w.r.Intn(2)
		for range 4 {
			if len(w.queue[i]) == 0 {
				w.doAdd(1 - i)
				w.doSign(1 - i)
				continue
			}
			m := w.odd(w.queue[i][0])
			w.queue[i] = w.queue[i][1:]
			if w.r.Intn(8) == 0 {
				w.doLose()
			}
			if w.r.Intn(16) == 0 {
				w.doUp(i)
			}
			w.doHear(i, m)
			w.look(i)
		}
		// Whatever it is now, calls answer as they should.
		w.doAdd(i)
		w.doSettle(i)
		w.doSign(i)
		w.doLose()
		w.doUp(i)
		w.look(i)
	}
	for kind := range 6 {
		for _, e := range []string{" OK", " Clash", " Arg", " Down", " Broken"} {
			if name := "On " + string(rune('1'+kind)) + e; told[name] < 3 {
				t.Errorf("%s: seen only %d times", name, told[name])
			}
		}
	}
	for _, name := range []string{"Add Broken", "Fulfil Broken", "Fail Broken", "Up Broken"} {
		if told[name] < 20 {
			t.Errorf("%s: seen only %d times", name, told[name])
		}
	}
}

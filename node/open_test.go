package node

import (
	"math/rand"
	"reflect"
	"testing"

	"tollhouse/api"
	"tollhouse/files"
	"tollhouse/kv"
	"tollhouse/log"
)

func disk(t *testing.T, size int) *files.Files {
	t.Helper()
	f, e := files.New(size)
	if e != api.OK {
		t.Fatal("files", e)
	}
	return f
}

func open(t *testing.T, f *files.Files) *Node {
	t.Helper()
	n, e := Open(config(), f)
	if e != api.OK || n == nil {
		t.Fatal("Open", e)
	}
	return n
}

// on hands n an input that must be taken, and is its output.
func on(t *testing.T, n *Node, in api.Input) api.Output {
	t.Helper()
	out, e := n.On(in)
	if e != api.OK {
		t.Fatal("On", in.Kind, e)
	}
	return out
}

// wantAnswer hands n an input, and asks for its answer.
func wantAnswer(t *testing.T, n *Node, in api.Input, want api.Errno) api.Output {
	t.Helper()
	out := on(t, n, in)
	if out.Answer != want {
		t.Errorf("input of the kind %d: answer %d, not %d", in.Kind, out.Answer, want)
	}
	return out
}

// P24.1: a new node.
func TestNew(t *testing.T) {
	f := disk(t, 1<<20)
	n := open(t, f)
	if n.Inputs() != 1 || n.Height() != 0 || n.Dead() || !n.Idle() || len(n.Payments())+len(n.Invoices()) > 0 {
		t.Error("a new node", n.Inputs(), n.Height(), n.Dead(), n.Idle())
	}
	if p := n.Purse(); p != (api.Purse{Open: 1500}) {
		t.Error("Purse", p)
	}
	// Its InStart is kept, for sure, in the file node alone.
	if l := f.List(); len(l) != 1 || l[0].Name != "node" || f.Unsure() != 0 {
		t.Error("files", l, f.Unsure())
	}
	if m := open(t, f); m.Inputs() != 2 {
		t.Error("opened anew", m.Inputs())
	}
}

// P24.1: what Open refuses, and what goes ahead.
func TestOpenRefuses(t *testing.T) {
	_, e := Open(config(), nil)
	wantErr(t, "no disk", e, api.ErrArg)
	bad := config()
	bad.Wait = 0
	off := disk(t, 100)
	off.Stop(0)
	_, e = Open(bad, off)
	wantErr(t, "ErrArg ahead of ErrOff", e, api.ErrArg)
	_, e = Open(config(), off)
	wantErr(t, "a disk that is off", e, api.ErrOff)
	f := disk(t, 1000)
	l, _, _ := log.Open(f, "node")
	l.Append([]byte("this is no batch"))
	_, e = Open(config(), f)
	wantErr(t, "a log of something else", e, api.ErrStore)
	n, e := Open(config(), disk(t, 0))
	wantErr(t, "no room", e, api.ErrFull)
	if n != nil {
		t.Error("a node beside an error")
	}
	f = disk(t, 1000)
	for k := range api.MaxFiles {
		f.Append(string(rune('a'+k)), []byte("x"))
	}
	_, e = Open(config(), f)
	wantErr(t, "no room for a file", e, api.ErrFull)
	for stop := 1; stop < 2; stop++ {
		f = disk(t, 1000)
		f.Stop(stop)
		_, e = Open(config(), f)
		wantErr(t, "a disk that goes off", e, api.ErrDead)
	}
	f = disk(t, 1000)
	f.Stop(2)
	if n, e := Open(config(), f); e != api.OK || n.Dead() {
		t.Error("a disk that goes off behind it", e)
	}
}

func wantErr(t *testing.T, what string, got, want api.Errno) {
	t.Helper()
	if got != want {
		t.Errorf("%s: %d, not %d", what, got, want)
	}
}

// P24.1: what is kept is no input.
func TestNoInputs(t *testing.T) {
	begun := func() *files.Files {
		f := disk(t, 1<<20)
		n := open(t, f)
		on(t, n, api.Input{Kind: api.InTick})
		on(t, n, api.Input{Kind: api.InMsg, Peer: 2, Bytes: make([]byte, 9000)})
		on(t, n, api.Input{Kind: api.InTick})
		return f
	}
	var keys []string
	s, _ := kv.Open(begun(), "node")
	for key := range s.Range("", "") {
		keys = append(keys, key)
	}
	if len(keys) != 6 {
		t.Fatal("inputs are not kept in parts", keys)
	}
	for what, puts := range map[string][]api.Put{
		"another key":            {{Key: "x", Value: []byte{1}}},
		"a key ahead":            {{Key: " ", Value: []byte{1}}},
		"an input is wanting":    {{Key: keys[1], Gone: true}},
		"a long one is wanting":  {{Key: keys[2], Gone: true}, {Key: keys[3], Gone: true}, {Key: keys[4], Gone: true}},
		"the first is wanting":   {{Key: keys[0], Gone: true}},
		"a part is wanting":      {{Key: keys[3], Gone: true}},
		"the first part is":      {{Key: keys[2], Gone: true}},
		"the last part is":       {{Key: keys[4], Gone: true}},
		"nothing":                {{Key: keys[1]}},
		"no stream":              {{Key: keys[1], Value: []byte{255}}},
		"no kind":                {{Key: keys[1], Value: []byte{3, 1, 1}}},
		"a kind that is none":    {{Key: keys[1], Value: []byte{1, 1, 12}}},
		"a kind of two bytes":    {{Key: keys[1], Value: []byte{1, 2, 5, 5}}},
		"a number written long":  {{Key: keys[1], Value: []byte{1, 3, 253, 0, 5}}},
		"a field that there not": {{Key: keys[1], Value: []byte{1, 1, 5, 99, 1, 1}}},
		"a field that is zero":   {{Key: keys[1], Value: []byte{1, 1, 5, 3, 1, 0}}},
		"a hash that is short":   {{Key: keys[1], Value: []byte{1, 1, 5, 19, 1, 1}}},
		"no transactions":        {{Key: keys[1], Value: []byte{1, 1, 6, 9, 2, 1, 1}}},
	} {
		f := begun()
		s, _ := kv.Open(f, "node")
		if e := s.Commit(puts); e != api.OK {
			t.Fatal("Commit", e)
		}
		n, e := Open(config(), f)
		if e != api.ErrStore || n != nil {
			t.Errorf("%s: %d", what, e)
		}
	}
	f := begun()
	s, _ = kv.Open(f, "node")
	s.Commit([]api.Put{{Key: keys[1], Value: []byte{1, 1, 5}}})
	if n, e := Open(config(), f); e != api.OK || n.Inputs() != 5 {
		t.Error("an input that may be", e)
	}
}

// P24.2: what On refuses.
func TestOnRefuses(t *testing.T) {
	f := disk(t, 1<<20)
	n := open(t, f)
	for _, in := range []api.Input{{}, {Kind: -1}, {Kind: 12}, {Kind: api.InMsg, Bytes: make([]byte, api.MaxInput)}, {Kind: api.InMsg, Bytes: make([]byte, 1<<20)}, {Kind: api.InPay, Text: string(make([]byte, 70000))}, {Kind: api.InBlock, Txs: make([]api.Tx, 70000)}} {
		out, e := n.On(in)
		wantErr(t, "an input that may not be", e, api.ErrInput)
		if !reflect.DeepEqual(out, api.Output{}) || n.Inputs() != 1 || n.Dead() {
			t.Error("something was done")
		}
	}
	wantAnswer(t, n, api.Input{Kind: api.InMsg, Bytes: make([]byte, api.MaxInput-100)}, api.ErrCode)
	if n.Inputs() != 2 || f.Unsure() != 0 {
		t.Error("it is not kept for sure")
	}
	f.Stop(0)
	_, e := n.On(api.Input{Kind: 12})
	wantErr(t, "ErrInput ahead of ErrDead", e, api.ErrInput)
	_, e = n.On(api.Input{Kind: api.InTick})
	wantErr(t, "a disk that does not answer", e, api.ErrDead)
	if !n.Dead() || n.Inputs() != 2 {
		t.Error("dead", n.Dead(), n.Inputs())
	}
	f.Crash(0, 0)
	_, e = n.On(api.Input{Kind: 12})
	wantErr(t, "once dead", e, api.ErrDead)
	_, e = n.On(api.Input{Kind: api.InTick})
	wantErr(t, "dead, though the disk is on again", e, api.ErrDead)
}

// P24.2: a disk without room: nothing is done, and what takes less is taken.
func TestFull(t *testing.T) {
	f := disk(t, 400)
	n := open(t, f)
	big := api.Input{Kind: api.InMsg, Peer: 1, Bytes: make([]byte, 400)}
	for range 3 {
		out, e := n.On(big)
		wantErr(t, "no room", e, api.ErrFull)
		if !reflect.DeepEqual(out, api.Output{}) || n.Dead() || n.Inputs() != 1 {
			t.Error("something was done")
		}
	}
	for {
		_, e := n.On(api.Input{Kind: api.InBlock, Height: n.Height() + 1})
		if e == api.ErrFull {
			break
		}
		wantErr(t, "a small one", e, api.OK)
	}
	if n.Height() < 5 || n.Inputs() != n.Height()+1 {
		t.Error("small ones", n.Height(), n.Inputs())
	}
}

// anyInput is an input with anything in it.
func anyInput(r *rand.Rand) api.Input {
	some := func() int {
		return []int{0, 0, 1, 252, 253, 70000, -1, 1 << 40, -1 << 63, 1<<63 - 1}[r.Intn(10)]
	}
	array := func() [32]byte {
		var a [32]byte
		if r.Intn(2) == 0 {
			r.Read(a[:])
		}
		return a
	}
	in := api.Input{Kind: 1 + r.Intn(11), Peer: some(), Height: some(), Number: some(), Amount: some(), Expiry: some(), Hash: array(), Secret: array()}
	if r.Intn(2) == 0 {
		in.Bytes = make([]byte, r.Intn(6000))
		r.Read(in.Bytes)
		in.Text = string(in.Bytes[:r.Intn(len(in.Bytes)+1)])
	}
	for range r.Intn(3) {
		var x api.Tx
		for range r.Intn(3) {
			x.Ins = append(x.Ins, api.In{Ref: api.Ref{Tx: array(), Out: some()}, Path: some(), Secret: array(), TagA: array(), TagB: array()})
		}
		for range r.Intn(3) {
			o := api.Out{Amount: some()}
			for range r.Intn(3) {
				o.Paths = append(o.Paths, api.Path{A: some(), B: some(), Two: r.Intn(2) == 0, Height: some(), Delay: some(), Hash: array()})
			}
			x.Outs = append(x.Outs, o)
		}
		in.Txs = append(in.Txs, x)
	}
	return in
}

// P24.2, P24.7: an input is kept as it is, and what is kept is read in one way alone.
func TestKept(t *testing.T) {
	r := rand.New(rand.NewSource(1))
	f := disk(t, 1<<24)
	s, _ := kv.Open(f, "node")
	var all []api.Input
	for k := range 300 {
		in := anyInput(r)
		if len(in.Bytes) == 0 {
			in.Bytes = nil
		}
		puts, ok := putsOf(k, in)
		if !ok || s.Commit(puts) != api.OK {
			t.Fatal("an input is not kept", in)
		}
		all = append(all, in)
		b, _ := encode(in)
		for range 30 {
			wrong := append([]byte(nil), b...)
			wrong[r.Intn(len(wrong))] ^= byte(1 << r.Intn(8))
			if x, ok := decode(wrong[:len(wrong)-r.Intn(2)]); ok && reflect.DeepEqual(x, in) {
				t.Fatal("an input is read from other bytes")
			}
		}
	}
	s, _ = kv.Open(f, "node")
	l, ok := kept(s)
	if !ok || !reflect.DeepEqual(l, all) {
		t.Error("other inputs are read")
	}
}

// R1, R3: any inputs are taken, and none is changed or kept.
func TestAnyInput(t *testing.T) {
	r := rand.New(rand.NewSource(2))
	f := disk(t, 1<<26)
	n := open(t, f)
	for range 2000 {
		in := anyInput(r)
		if r.Intn(3) == 0 {
			in.Height, in.Peer, in.Number = r.Intn(20), r.Intn(3), 7+2*r.Intn(2)
		}
		in.Txs = append(in.Txs, api.Tx{})
		again, _ := encode(in)
		on(t, n, in)
		if b, _ := encode(in); !reflect.DeepEqual(b, again) {
			t.Fatal("an input is changed")
		}
		for k := range in.Bytes {
			in.Bytes[k] = 99
		}
		for k := range in.Txs {
			in.Txs[k] = api.Tx{Ins: make([]api.In, 9)}
		}
	}
	m := open(t, f)
	on(t, n, api.Input{Kind: api.InStart})
	wantSame(t, m, n)
}

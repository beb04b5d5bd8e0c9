package sim

import (
	"math"
	"reflect"
	"testing"

	"tollhouse/api"
	"tollhouse/chain"
	"tollhouse/deal"
)

// P25.1: which nets may be.
func TestNew(t *testing.T) {
	for what, c := range map[string]struct {
		change func(n *api.Net)
		want   api.Errno
	}{
		"as it is":          {func(n *api.Net) {}, api.OK},
		"no nodes":          {func(n *api.Net) { *n = api.Net{Wait: 1} }, api.ErrArg},
		"channels alone":    {func(n *api.Net) { n.Nodes, n.Rules, n.Bad = 0, nil, nil }, api.ErrArg},
		"fewer than none":   {func(n *api.Net) { n.Nodes, n.Rules, n.Bad = -1, nil, nil }, api.ErrArg},
		"very many":         {func(n *api.Net) { n.Nodes = math.MaxInt }, api.ErrArg},
		"one more":          {func(n *api.Net) { n.Nodes++ }, api.ErrArg},
		"one less":          {func(n *api.Net) { n.Nodes-- }, api.ErrArg},
		"no Bad":            {func(n *api.Net) { n.Bad = nil }, api.ErrArg},
		"too few Bad":       {func(n *api.Net) { n.Bad = n.Bad[1:] }, api.ErrArg},
		"too many Bad":      {func(n *api.Net) { n.Bad = append(n.Bad, false) }, api.ErrArg},
		"all Bad":           {func(n *api.Net) { n.Bad = []bool{true, true, true} }, api.OK},
		"too few Rules":     {func(n *api.Net) { n.Rules = n.Rules[1:] }, api.ErrArg},
		"Rules":             {func(n *api.Net) { n.Rules[2].Delta = 0 }, api.ErrArg},
		"no Wait":           {func(n *api.Net) { n.Wait = 0 }, api.ErrArg},
		"the longest Wait":  {func(n *api.Net) { n.Wait = api.MaxExpiry }, api.OK},
		"a longer Wait":     {func(n *api.Net) { n.Wait = api.MaxExpiry + 1 }, api.ErrArg},
		"no Margin":         {func(n *api.Net) { n.Margin = 0 }, api.OK},
		"less Margin":       {func(n *api.Net) { n.Margin = -1 }, api.ErrArg},
		"too much Margin":   {func(n *api.Net) { n.Margin = api.MaxDelay + 1 }, api.ErrArg},
		"no channels":       {func(n *api.Net) { n.Terms = nil }, api.ErrArg},
		"a channel twice":   {func(n *api.Net) { n.Terms[1].Channel = 1 }, api.ErrArg},
		"two of two nodes":  {func(n *api.Net) { n.Terms[1].A, n.Terms[1].B = 0, 1 }, api.OK},
		"to no node":        {func(n *api.Net) { n.Terms[1].B = 3 }, api.ErrArg},
		"the wrong way":     {func(n *api.Net) { n.Terms[1].A, n.Terms[1].B = 2, 1 }, api.ErrArg},
		"no Delay":          {func(n *api.Net) { n.Terms[0].Delay = 0 }, api.ErrArg},
		"less than nothing": {func(n *api.Net) { n.Terms[0].StartB = -1 }, api.ErrArg},
		"a Fund of its own": {func(n *api.Net) { n.Terms[0].Fund = api.Ref{Tx: [32]byte{4}, Out: 9} }, api.OK},
		"no Fund":           {func(n *api.Net) { n.Terms[0].Fund.Out = -1 }, api.ErrArg},
		"all there is":      {func(n *api.Net) { n.Terms[0].StartA = api.MaxMsat - 3000 }, api.OK},
		"more than that":    {func(n *api.Net) { n.Terms[0].StartA = api.MaxMsat - 2999 }, api.ErrArg},
		"nothing at all":    {func(n *api.Net) { n.Terms = []api.Terms{between(1, 0, 1, 0, 0)} }, api.OK},
	} {
		n := row(3)
		c.change(&n)
		s, e := New(n)
		if e != c.want || (s == nil) != (e != api.OK) {
			t.Errorf("%s: %v, %d", what, s != nil, e)
		}
	}
	most := row(api.MaxNodes)
	for i := len(most.Terms); i < api.MaxChannels; i++ {
		most.Terms = append(most.Terms, between(100+i, 2, 5, 1, 1))
	}
	if s, e := New(most); e != api.OK || s.Node(7) == nil || len(s.Terms()) != 32 {
		t.Error("the greatest net", e)
	}
	most.Terms = append(most.Terms, between(99, 0, 1, 1, 1))
	if s, e := New(most); e != api.ErrArg || s != nil {
		t.Error("a channel more", e)
	}
}

// P25.1, P25.3: a net at its beginning.
func TestBeginning(t *testing.T) {
	n := netOf(3, between(9, 1, 2, 30, 40), between(4, 0, 1, 10, 20))
	x := begin(t, n)
	c, _ := chain.New(n.Seed, 3, []api.Out{deal.Fund(n.Terms[0]), deal.Fund(n.Terms[1])})
	for i, y := range x.Terms() {
		want := n.Terms[i]
		want.Fund = api.Ref{Tx: c.First(), Out: i}
		if y != want {
			t.Errorf("Terms %d: %+v", i, y)
		}
		if x.Spent(y.Channel) {
			t.Error("Spent", i)
		}
	}
	for i := range 3 {
		size := 0
		for _, f := range x.Files(i).List() {
			size += len(f.Bytes)
		}
		if x.Files(i).Left()+size != 1<<26 {
			t.Error("the size of disk", i)
		}
		if y := x.Node(i); y.Dead() || y.Inputs() != 1 || y.Height() != 0 {
			t.Error("node", i, y.Dead(), y.Inputs())
		}
		for j := range 3 {
			if x.There(i, j) || x.OnWay(i, j) != 0 {
				t.Error("not parted", i, j)
			}
		}
	}
	x.wantWealth([2]int{10, 0}, [2]int{50, 0}, [2]int{40, 0})
	x.wantQuiet(true)
	if x.Height()+x.Fees()+x.Dust()+len(x.Made()) > 0 {
		t.Error("something happened")
	}
}

// P25.3: what there is not.
func TestNone(t *testing.T) {
	x := meeting(t, row(2))
	for _, i := range []int{-1, 2, 8, math.MinInt, math.MaxInt} {
		if open, c := x.Wealth(i); x.Node(i) != nil || x.Files(i) != nil || open+c != 0 {
			t.Error("node", i)
		}
		if x.There(i, 0) || x.There(0, i) || x.OnWay(i, 0)+x.OnWay(0, i) != 0 {
			t.Error("There", i)
		}
	}
	for _, channel := range []int{-1, 0, 2, math.MaxInt} {
		if x.Spent(channel) {
			t.Error("Spent", channel)
		}
	}
	if x.There(0, 0) || x.OnWay(1, 1) != 0 {
		t.Error("there for itself")
	}
}

// P25.3: of a nil Sim, and of one that New did not make.
func TestNil(t *testing.T) {
	for _, s := range []*Sim{nil, {}} {
		for kind := -1; kind < 18; kind++ {
			if e := s.Do(api.Move{Kind: kind}); e != api.ErrClosed {
				t.Error("Do", kind, e)
			}
		}
		s.Calm(3)
		if s.Node(0) != nil || s.Files(0) != nil || s.Terms() != nil || s.Made() != nil {
			t.Error("there is something")
		}
		open, c := s.Wealth(0)
		if s.OnWay(0, 1)+s.Height()+s.Fees()+s.Dust()+open+c != 0 {
			t.Error("not zeros")
		}
		if s.There(0, 1) || s.Spent(1) || s.Quiet() {
			t.Error("not false")
		}
	}
}

// R3: what is handed in is not kept, what is answered is new.
func TestMemory(t *testing.T) {
	n := row(3, 1)
	y := begin(t, row(3, 1))
	x := begin(t, n)
	n.Terms[0], n.Rules[0], n.Bad[1] = api.Terms{}, api.Rules{}, false
	spoilTerms, spoilMade := func() { x.Terms()[0] = api.Terms{} }, func() { x.Made()[0] = api.Made{} }
	spoilTerms()
	for _, z := range []*world{x, y} {
		z.allUp()
		z.all()
		z.bill(2, api.InvoicePlain, 100)
	}
	spoilMade()
	hold := []int{0}
	for _, z := range []*world{x, y} {
		z.pay(0, 0)
		z.all()
		z.do(api.Move{Kind: api.MoveCheat, A: 1}, api.Move{Kind: api.MoveBlock, Hold: hold})
		z.Calm(2)
	}
	if hold[0] != 0 || !reflect.DeepEqual(faceOf(x.Sim), faceOf(y.Sim)) {
		t.Error("another net")
	}
}

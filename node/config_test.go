package node

import (
	"math"
	"testing"

	"tollhouse/api"
	"tollhouse/chain"
	"tollhouse/channel"
	"tollhouse/deal"
	"tollhouse/mac"
	"tollhouse/secrets"
)

// config is one that may be, of node 1 of three in a row.
func config() api.Config {
	return api.Config{
		Node: 1, Nodes: 3, Seed: [32]byte{42}, Wait: 5, Margin: 2,
		Terms: []api.Terms{between(7, 0, 1, 1000, 500), between(9, 1, 2, 1000, 500)},
		Rules: []api.Rules{plainRules(), plainRules(), plainRules()},
	}
}

// P24.1: which configurations may be.
func TestMay(t *testing.T) {
	for _, c := range []struct {
		what   string
		change func(c *api.Config)
		want   bool
	}{
		{"as it is", func(c *api.Config) {}, true},
		{"the first node", func(c *api.Config) { c.Node = 0 }, true},
		{"the last node", func(c *api.Config) { c.Node = 2 }, true},
		{"a node below 0", func(c *api.Config) { c.Node = -1 }, false},
		{"a node beyond", func(c *api.Config) { c.Node = 3 }, false},
		{"no nodes", func(c *api.Config) { c.Nodes, c.Node, c.Rules, c.Terms = 0, 0, nil, nil }, false},
		{"one node", func(c *api.Config) { c.Nodes, c.Node, c.Rules, c.Terms = 1, 0, c.Rules[:1], nil }, true},
		{"eight nodes", func(c *api.Config) {
			c.Nodes, c.Rules = 8, append(c.Rules, c.Rules[0], c.Rules[0], c.Rules[0], c.Rules[0], c.Rules[0])
		}, true},
		{"nine nodes", func(c *api.Config) {
			c.Nodes, c.Rules = 9, append(c.Rules, c.Rules[0], c.Rules[0], c.Rules[0], c.Rules[0], c.Rules[0], c.Rules[0])
		}, false},
		{"nodes below 0", func(c *api.Config) { c.Nodes = math.MinInt }, false},
		{"no wait", func(c *api.Config) { c.Wait = 0 }, false},
		{"the least wait", func(c *api.Config) { c.Wait = 1 }, true},
		{"the greatest wait", func(c *api.Config) { c.Wait = api.MaxExpiry }, true},
		{"a wait beyond", func(c *api.Config) { c.Wait = api.MaxExpiry + 1 }, false},
		{"no margin", func(c *api.Config) { c.Margin = 0 }, true},
		{"a margin below 0", func(c *api.Config) { c.Margin = -1 }, false},
		{"the greatest margin", func(c *api.Config) { c.Margin = api.MaxDelay }, true},
		{"a margin beyond", func(c *api.Config) { c.Margin = api.MaxDelay + 1 }, false},
		{"rules that are too few", func(c *api.Config) { c.Rules = c.Rules[:2] }, false},
		{"rules that are too many", func(c *api.Config) { c.Rules = append(c.Rules, c.Rules[0]) }, false},
		{"rules that may not be", func(c *api.Config) { c.Rules[2].Delta = 0 }, false},
		{"terms that may not be", func(c *api.Config) { c.Terms[1].Delay = 0 }, false},
		{"no terms", func(c *api.Config) { c.Terms = nil }, true},
		{"a node of no net", func(c *api.Config) { c.Terms[1].B = 3 }, false},
		{"a channel twice", func(c *api.Config) { c.Terms[1].Channel = 7 }, false},
		{"32 channels", func(c *api.Config) { c.Terms = channels(32) }, true},
		{"33 channels", func(c *api.Config) { c.Terms = channels(33) }, false},
	} {
		x := config()
		c.change(&x)
		if May(x) != c.want {
			t.Errorf("%s: %v", c.what, !c.want)
		}
		n, e := Open(x, disk(t, 1<<20))
		if (e == api.OK) != c.want || (n != nil) != c.want || !c.want && e != api.ErrArg {
			t.Errorf("%s: Open: %d", c.what, e)
		}
	}
}

// channels is so many channels between nodes 0 and 1.
func channels(n int) []api.Terms {
	var l []api.Terms
	for k := range n {
		l = append(l, between(k+1, 0, 1, 10, 10))
	}
	return l
}

// P24.1: keys.
func TestKeys(t *testing.T) {
	seed := [32]byte{1, 2}
	c, _ := chain.New(seed, 8, []api.Out{{Amount: 1, Paths: []api.Path{{A: 1}}}})
	for node := range 8 {
		id := [32]byte{byte(node), 3}
		if mac.Tag(Key(seed, node), "tx", id[:]) != c.Tag(node, id) {
			t.Error("Key is not the chain's", node)
		}
		if Onion(seed, node) != mac.Derive(seed, "onion", uint64(node)) {
			t.Error("Onion", node)
		}
		if Secrets(seed, node, 77) != mac.Derive(mac.Derive(seed, "secrets", uint64(node)), "channel", 77) {
			t.Error("Secrets", node)
		}
	}
}

// P24.1: who a node is in a channel.
func TestParty(t *testing.T) {
	seed := [32]byte{1, 2}
	x := between(7, 2, 5, 1000, 500)
	for _, node := range []int{2, 5} {
		other := deal.Other(x, node)
		points := mac.Derive(mac.Derive(seed, "secrets", uint64(other)), "channel", 7)
		want := api.Party{
			Node:   node,
			Seed:   mac.Derive(mac.Derive(seed, "secrets", uint64(node)), "channel", 7),
			Key:    mac.Derive(seed, "node", uint64(node)),
			Other:  mac.Derive(seed, "node", uint64(other)),
			Points: [2][32]byte{secrets.Point(points, 0), secrets.Point(points, 1)},
		}
		p := Party(seed, x, node)
		if p != want {
			t.Error("Party", node, p)
		}
		if _, e := channel.New(x, p); e != api.OK {
			t.Error("a party that no channel takes", e)
		}
	}
	if p := Party(seed, x, 3); p != (api.Party{}) {
		t.Error("Party of neither", p)
	}
}

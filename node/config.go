package node

import (
	"slices"

	"tollhouse/api"
	"tollhouse/deal"
	"tollhouse/mac"
	"tollhouse/policy"
	"tollhouse/secrets"
)

// May tells whether there may be a node of this configuration.
func May(c api.Config) bool {
	return within(c.Nodes, 1, api.MaxNodes) && within(c.Node, 0, c.Nodes-1) &&
		within(c.Wait, 1, api.MaxExpiry) && within(c.Margin, 0, api.MaxDelay) &&
		len(c.Rules) == c.Nodes && !slices.ContainsFunc(c.Rules, func(r api.Rules) bool { return !policy.May(r) }) &&
		mayTerms(c)
}

// mayTerms tells whether a net may have all channels of c.
func mayTerms(c api.Config) bool {
	if len(c.Terms) > api.MaxChannels {
		return false
	}
	seen := map[int]struct{}{}
	for _, t := range c.Terms {
		// A is below B.
		if !deal.May(t) || t.B >= c.Nodes {
			return false
		}
		seen[t.Channel] = struct{}{}
	}
	return len(seen) == len(c.Terms)
}

// Key is a node's on the chain.
func Key(seed [32]byte, node int) [32]byte {
	return mac.Derive(seed, "node", uint64(node))
}

// Onion is a node's key for onions.
func Onion(seed [32]byte, node int) [32]byte {
	return mac.Derive(seed, "onion", uint64(node))
}

// Secrets is the seed of a node's secrets in a channel.
func Secrets(seed [32]byte, node, channel int) [32]byte {
	return mac.Derive(mac.Derive(seed, "secrets", uint64(node)), "channel", uint64(channel))
}

// Party is who a node is in the channel of t; nobody, if it is neither of the two.
func Party(seed [32]byte, t api.Terms, node int) api.Party {
	other := deal.Other(t, node)
	if other < 0 {
		return api.Party{}
	}
	points := Secrets(seed, other, t.Channel)
	return api.Party{
		Node:   node,
		Seed:   Secrets(seed, node, t.Channel),
		Key:    Key(seed, node),
		Other:  Key(seed, other),
		Points: [2][32]byte{secrets.Point(points, 0), secrets.Point(points, 1)},
	}
}

func within(x, least, most int) bool {
	return least <= x && x <= most
}

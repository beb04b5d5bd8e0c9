package node

import (
	"testing"

	"tollhouse/api"
	"tollhouse/wire"
)

// msgs is what a node says.
func msgs(t *testing.T, out api.Output) []api.Msg {
	t.Helper()
	var l []api.Msg
	for _, s := range out.Msgs {
		m, e := wire.Decode(s.Bytes)
		if e != api.OK {
			t.Fatal("no message", e)
		}
		l = append(l, m)
	}
	return l
}

// kindsOf is the kinds of what a node says.
func kindsOf(t *testing.T, out api.Output) []int {
	t.Helper()
	var l []int
	for _, m := range msgs(t, out) {
		l = append(l, m.Kind)
	}
	return l
}

package tofour

import (
	"slices"

	"ferryman/api"
)

// fragment tells whether a datagram is a part of another: one with a fragment header may yet be whole.
func fragment(v api.V6) bool { return v.Frag && (v.More || v.Off > 0) }

// routed tells whether there is a routing header that is not at its end, among heads that may be.
func routed(heads []api.Head) bool {
	const leftAt = 1 // the place of how many addresses are still to be gone to
	return slices.ContainsFunc(heads, func(h api.Head) bool {
		return h.Kind == api.ProtoRouting && h.Body[leftAt] != 0
	})
}

// header is a datagram's as an IPv4 one, which has no Body yet.
func header(v api.V6, ends api.Ends4) api.V4 {
	w := api.V4{TOS: v.Class, TTL: v.Hop, Src: ends.Src, Dst: ends.Dst, Proto: protocol(v.Proto)}
	if v.Frag {
		w.ID, w.Off, w.MF = uint16(v.ID), v.Off, v.More
	} else {
		w.DF = true
	}
	return w
}

// protocol is a next header as IPv4 names it. It gives up on those that mean something over IPv6 alone, and on ICMP, which does so over IPv4.
func protocol(next uint8) uint8 {
	switch next {
	case api.ProtoICMP6:
		return api.ProtoICMP
	case api.ProtoHops, api.ProtoICMP, api.ProtoRouting, api.ProtoFragment, api.ProtoDest:
		panic(gaveUp(api.ErrNoSide))
	}
	return next
}

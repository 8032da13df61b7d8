package tosix

import "ferryman/api"

// fragment tells whether a datagram is a part of another.
func fragment(v api.V4) bool { return v.MF || v.Off > 0 }

// header is a datagram's as an IPv6 one, which has no Body yet.
func header(v api.V4, ends api.Ends6) api.V6 {
	w := api.V6{Class: v.TOS, Hop: v.TTL, Src: ends.Src, Dst: ends.Dst, Proto: next(v.Proto)}
	if fragment(v) {
		w.Frag, w.ID, w.Off, w.More = true, uint32(v.ID), v.Off, v.MF
	}
	return w
}

// next is a protocol as IPv6 names it. It gives up on those that mean something there alone.
func next(proto uint8) uint8 {
	switch proto {
	case api.ProtoICMP:
		return api.ProtoICMP6
	case api.ProtoHops, api.ProtoRouting, api.ProtoFragment, api.ProtoICMP6, api.ProtoDest:
		panic(gaveUp(api.ErrNoSide))
	}
	return proto
}

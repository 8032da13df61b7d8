package tosix

import (
	"bytes"
	"slices"

	"ferryman/api"
	"ferryman/segment"
)

const udpCheckAt = 6 // the place of its checksum

// body is that of a datagram whose protocol is not ICMP.
func body(v api.V4, ends api.Ends6) []byte {
	if v.Off > 0 {
		return bytes.Clone(v.Body)
	}
	must(len(v.Body) >= leastBody(v.Proto), api.ErrBody)
	switch v.Proto {
	case api.ProtoUDP:
		if wordOf(v.Body[udpCheckAt:]) == 0 {
			return reckoned(v, ends)
		}
		fallthrough
	case api.ProtoTCP:
		return carried(v, ends)
	}
	return bytes.Clone(v.Body)
}

// leastBody is how many bytes the header of a protocol has at least.
func leastBody(proto uint8) int {
	switch proto {
	case api.ProtoTCP:
		return 20
	case api.ProtoUDP:
		return 8
	}
	return 0
}

// carried is the Body of a datagram whose Off is 0, with a checksum of TCP or UDP, if there is one, that tells of other ends.
func carried(v api.V4, ends api.Ends6) []byte {
	src, dst, there := segment.Ports(v.Proto, v.Body)
	if !there {
		return bytes.Clone(v.Body)
	}
	// As many bytes as there are of the other ends; those that are 0 count for nothing. The ports stay as they are, so that nothing but the checksum changes.
	from := make([]byte, len(ends.Src)+len(ends.Dst))
	copy(from, slices.Concat(v.Src[:], v.Dst[:]))
	b, e := segment.Rewrite(v.Proto, v.Body, from, slices.Concat(ends.Src[:], ends.Dst[:]), src, dst)
	good(e)
	return b
}

// reckoned is the Body of a datagram of UDP that has no checksum, with the one that IPv6 asks for.
func reckoned(v api.V4, ends api.Ends6) []byte {
	must(!v.MF, api.ErrZero)
	u, _, e := segment.ParseUDP4(v.Src, v.Dst, v.Body)
	must(e == api.OK, api.ErrBody)
	b, e := segment.WriteUDP6(ends.Src, ends.Dst, u)
	good(e)
	return b
}

package tofour

import (
	"slices"

	"ferryman/api"
	"ferryman/ipv4"
	"ferryman/ipv6"
	"ferryman/sum"
)

const (
	lengthAt6  = 4  // the place of how many bytes stand behind an IPv6 header
	front6     = 40 // its bytes
	lengthAt4  = 2  // the place of the length of all in an IPv4 header
	headSumAt4 = 10 // the place of its checksum
	echoSumAt  = 2  // the place of an echo's checksum
	echoFront  = 4  // an echo's bytes up to behind it
)

// inside are the first bytes of a packet as those of an IPv4 one.
func inside(b []byte, ends api.Ends4) []byte {
	v, _, e := ipv6.Part(b)
	must(e == api.OK && !aboutError(v), api.ErrInner)
	must(!routed(v.Heads), api.ErrRoute)
	cutOff := front6 + int(wordOf(b[lengthAt6:])) - len(b)
	size := len(v.Body) + cutOff
	return append(front(v, ends, size), rest(v, ends, size)...)
}

// aboutError tells whether a packet is an error of ICMP itself, as far as that is there.
func aboutError(v api.V6) bool {
	if v.Off > 0 || v.Proto != api.ProtoICMP6 || len(v.Body) == 0 {
		return false
	}
	_, echo := echoType(v.Body[0])
	return !echo
}

// front is the header, as bytes, of a packet whose Body had so many bytes.
func front(v api.V6, ends api.Ends4, size int) []byte {
	b, e := ipv4.Write(header(v, ends))
	good(e)
	putWord(b[lengthAt4:], uint16(min(len(b)+size, api.MaxPacket)))
	putWord(b[headSumAt4:], 0)
	putWord(b[headSumAt4:], sum.Of(b))
	return b
}

// rest is a Body of which some may be cut off, and which had so many bytes.
func rest(v api.V6, ends api.Ends4, size int) []byte {
	if v.Off > 0 {
		return v.Body
	}
	if v.Proto == api.ProtoICMP6 {
		return echo(v, size)
	}
	return carried(v, ends)
}

// echo is the Body of one over IPv4, by one over IPv6 that had so many bytes.
func echo(v api.V6, size int) []byte {
	if len(v.Body) < echoFront {
		return v.Body
	}
	t, _ := echoType(v.Body[0])
	pseudo, e := sum.Pseudo6(v.Src, v.Dst, api.ProtoICMP6, size)
	good(e)
	was := slices.Concat(v.Body[:echoSumAt], pseudo)
	// Over IPv4 the checksum tells of no ends: it is as if all of these were 0.
	now := make([]byte, len(was))
	now[0], now[1] = t, v.Body[1]
	check, e := sum.Update(wordOf(v.Body[echoSumAt:]), was, now)
	good(e)
	b := slices.Clone(v.Body)
	b[0] = t
	putWord(b[echoSumAt:], check)
	return b
}

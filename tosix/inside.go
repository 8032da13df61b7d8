package tosix

import (
	"slices"

	"ferryman/api"
	"ferryman/ipv4"
	"ferryman/ipv6"
	"ferryman/sum"
)

const (
	lengthAt4 = 2  // the place of the length of all in an IPv4 header
	lengthAt6 = 4  // the place of how many bytes stand behind an IPv6 header
	nextAt    = 6  // the place of its next header
	front6    = 40 // its bytes, without a fragment header
	checkAt   = 2  // the place of an echo's checksum
	echoFront = 4  // an echo's bytes up to behind it
)

// inside are the first bytes of a packet as those of an IPv6 one.
func inside(b []byte, ends api.Ends6) []byte {
	v, _, e := ipv4.Part(b)
	must(e == api.OK && !aboutError(v), api.ErrInner)
	_, head, e := ipv4.Size(v)
	good(e)
	front, e := ipv6.Write(header(v, ends))
	good(e)
	// How many bytes of Body there were before any was cut off: at most MaxPacket less 20, so that a fragment header fits too.
	size := int(wordOf(b[lengthAt4:])) - head
	putWord(front[lengthAt6:], uint16(len(front)-front6+size))
	return append(front, cutOff(v, ends, size)...)
}

// aboutError tells whether a packet is an error of ICMP itself, as far as that is there.
func aboutError(v api.V4) bool {
	if v.Off > 0 || v.Proto != api.ProtoICMP || len(v.Body) == 0 {
		return false
	}
	_, echo := echoType(v.Body[0])
	return !echo
}

// cutOff is a Body of which some may be cut off, and which had so many bytes.
func cutOff(v api.V4, ends api.Ends6, size int) []byte {
	if v.Off > 0 {
		return v.Body
	}
	if v.Proto == api.ProtoICMP {
		return echo(v.Body, ends, size)
	}
	return carried(v, ends)
}

// echo is one over IPv6, by one over IPv4 that had so many bytes.
func echo(b []byte, ends api.Ends6, size int) []byte {
	if len(b) < echoFront {
		return b
	}
	t, _ := echoType(b[0])
	// Over IPv4 the checksum tells of no ends: it is as if all of these were 0.
	pseudo, e := sum.Pseudo6(ends.Src, ends.Dst, api.ProtoICMP6, size)
	good(e)
	was := slices.Concat(b[:checkAt], make([]byte, len(pseudo)))
	now := slices.Concat([]byte{t, b[1]}, pseudo)
	check, e := sum.Update(wordOf(b[checkAt:]), was, now)
	good(e)
	out := slices.Concat(now[:checkAt], b[checkAt:])
	putWord(out[checkAt:], check)
	return out
}

func wordOf(b []byte) uint16 { return uint16(b[0])<<8 | uint16(b[1]) }

func putWord(b []byte, w uint16) { b[0], b[1] = byte(w>>8), byte(w) }

package tofour

import (
	"bytes"
	"slices"

	"ferryman/api"
	"ferryman/sum"
)

// Places of checksums.
const (
	tcpCheckAt = 16
	udpCheckAt = 6
)

// body is that of a datagram whose protocol is not ICMP.
func body(v api.V6, ends api.Ends4) []byte {
	if v.Off > 0 {
		return bytes.Clone(v.Body)
	}
	must(len(v.Body) >= leastBody(v.Proto), api.ErrBody)
	switch v.Proto {
	case api.ProtoUDP:
		must(wordOf(v.Body[udpCheckAt:]) != 0, api.ErrZero)
		fallthrough
	case api.ProtoTCP:
		return carried(v, ends)
	}
	return bytes.Clone(v.Body)
}

// leastBody is how many bytes the header of a protocol has at least.
func leastBody(proto uint8) int {
	switch proto {
	case api.ProtoTCP:
		return 20
	case api.ProtoUDP:
		return 8
	}
	return 0
}

// carried is the Body of a datagram whose Off is 0, with a checksum of TCP or UDP, if there is one, that tells of other ends.
func carried(v api.V6, ends api.Ends4) []byte {
	b := bytes.Clone(v.Body)
	at, there := checkAt(v.Proto, b)
	if !there {
		return b
	}
	from := slices.Concat(v.Src[:], v.Dst[:])
	// As many bytes as there are of the IPv6 ends; those that are 0 count for nothing.
	to := make([]byte, len(from))
	copy(to, slices.Concat(ends.Src[:], ends.Dst[:]))
	check, e := sum.Update(wordOf(b[at:]), from, to)
	good(e)
	if check == 0 && v.Proto == api.ProtoUDP {
		check = 65535 // 0 would say that there is none
	}
	putWord(b[at:], check)
	return b
}

// checkAt is the place of the checksum in a Body of TCP or UDP that may be cut off; false: it is not there.
func checkAt(proto uint8, b []byte) (int, bool) {
	switch proto {
	case api.ProtoTCP:
		return tcpCheckAt, len(b) >= tcpCheckAt+2
	case api.ProtoUDP:
		return udpCheckAt, len(b) >= udpCheckAt+2 && wordOf(b[udpCheckAt:]) != 0
	}
	return 0, false
}

func wordOf(b []byte) uint16 { return uint16(b[0])<<8 | uint16(b[1]) }

func putWord(b []byte, w uint16) { b[0], b[1] = byte(w>>8), byte(w) }

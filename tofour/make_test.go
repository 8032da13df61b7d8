package tofour_test

import (
	"bytes"
	"fmt"
	"math/rand/v2"

	"ferryman/api"
)

// ends6 are the ends of the datagrams that the tests make.
var ends6 = api.Ends6{Src: api.Addr6{0x20, 1, 0xd, 0xb8, 7: 9, 15: 1}, Dst: api.Addr6{0xfe, 0x80, 8: 0xff, 15: 77}}

// datagram is one without heads and a fragment header.
func datagram(proto byte, body []byte) api.V6 {
	return api.V6{Class: 3, Label: 0xabcde, Hop: 7, Proto: proto, Src: ends6.Src, Dst: ends6.Dst, Body: body}
}

// fragment is a datagram with a fragment header.
func fragment(v api.V6, off int, more bool) api.V6 {
	v.Frag, v.ID, v.Off, v.More = true, 0xbeef0007, off, more
	return v
}

// whole is a datagram with a fragment header that says that it is no fragment.
func whole(v api.V6) api.V6 { return fragment(v, 0, false) }

// kindsOfFragment are a datagram as each kind of fragment: More alone, Off alone, both.
func kindsOfFragment(v api.V6) []api.V6 {
	return []api.V6{fragment(v, 0, true), fragment(v, 1, false), fragment(v, 8191, false), fragment(v, 185, true), fragment(v, 8191, true)}
}

// kinds are a datagram without a fragment header, and with each kind of one.
func kinds(v api.V6) []api.V6 { return append(kindsOfFragment(v), v, whole(v)) }

// head is an extension header with so many times 8 bytes; of a routing header left is how many addresses are left.
func head(kind byte, eights int, left byte) api.Head {
	b := bytes.Repeat([]byte{0x77}, 8*eights-2)
	b[1] = left
	return api.Head{Kind: kind, Body: b}
}

// withHeads is a datagram with these ahead.
func withHeads(v api.V6, heads ...api.Head) api.V6 {
	v.Heads = heads
	return v
}

// checkAt is the place of a protocol's checksum.
func checkAt(proto byte) int { return map[byte]int{6: 16, 17: 6, 58: 2}[proto] }

// rightBody is a Body of TCP, UDP or ICMPv6 with a right checksum: its other bytes are handed in. Of UDP it has its length.
func rightBody(proto byte, ends api.Ends6, b []byte) []byte {
	if proto == 17 {
		b = setNumber(b, 4, len(b))
	}
	at := checkAt(proto)
	b = setNumber(b, at, 0)
	check := 65535 - plainSum(append(pseudo6(ends, int(proto), len(b)), b...))
	if check == 0 && proto == 17 {
		check = 65535
	}
	return setNumber(b, at, check)
}

// message is a datagram of ICMPv6 with a right checksum.
func message(kind, code byte, rest uint32, body []byte) api.V6 {
	b := append(unhex(fmt.Sprintf("%02x%02x0000%08x", kind, code, rest)), body...)
	return datagram(58, rightBody(58, ends6, b))
}

// bytesOf are a datagram's bytes, written apart from the program; its length may be said to be more by so many bytes.
func bytesOf(v api.V6, more int) []byte {
	// From the end to the front: each header names what stands behind it.
	next, b := v.Proto, append([]byte{}, v.Body...)
	if v.Frag {
		word := 8 * v.Off
		if v.More {
			word++
		}
		b = append(unhex(fmt.Sprintf("%02x00%04x%08x", next, word, v.ID)), b...)
		next = 44
	}
	for i := len(v.Heads) - 1; i >= 0; i-- {
		h := v.Heads[i]
		b = append(unhex(fmt.Sprintf("%02x%02x%x", next, (len(h.Body)+2)/8-1, h.Body)), b...)
		next = h.Kind
	}
	return append(unhex(fmt.Sprintf("6%02x%05x%04x%02x%02x%x%x", v.Class, v.Label, len(b)+more, next, v.Hop, v.Src, v.Dst)), b...)
}

// ahead is how many bytes stand between a datagram's first 40 and its Body.
func ahead(v api.V6) int {
	v.Body = nil
	return len(bytesOf(v, 0)) - 40
}

// someHeads are heads without a routing header that is not at its end; often none.
func someHeads(r *rand.Rand) []api.Head {
	var l []api.Head
	for i := range max(0, r.IntN(6)-2) {
		h := head([]byte{0, 43, 60}[r.IntN(3)], 1+r.IntN(3), 0)
		if h.Kind == 0 && i > 0 {
			h.Kind = 60
		}
		if h.Kind != 43 {
			h.Body = someBytes(r, len(h.Body))
		}
		l = append(l, h)
	}
	return l
}

// someProto is a protocol: often one that is known.
func someProto(r *rand.Rand) byte {
	rare := []byte{0, 1, 43, 44, 59, 60, byte(r.Uint32())}[r.IntN(7)]
	return []byte{6, 6, 6, 17, 17, 17, 58, 58, 58, 58, 47, rare}[r.IntN(12)]
}

// someV6 is a datagram of any protocol, whole or a fragment, often with a right checksum.
func someV6(r *rand.Rand, most int) api.V6 {
	v := api.V6{
		Class: byte(r.Uint32()), Label: r.Uint32N(1 << 20), Hop: byte(r.Uint32()), Proto: someProto(r),
		Src: api.Addr6(someBytes(r, 16)), Dst: api.Addr6(someBytes(r, 16)), Heads: someHeads(r), Body: someBytes(r, r.IntN(most)),
	}
	if r.IntN(3) == 0 || isOne(v.Proto, 0, 43, 44, 60) {
		v.Frag, v.ID = true, r.Uint32()
		if r.IntN(2) == 0 {
			v.More, v.Off = r.IntN(2) == 0, r.IntN(2)*r.IntN(8192)
		}
	}
	if v.Proto == 58 && len(v.Body) > 0 && r.IntN(4) > 0 {
		v.Body[0] = []byte{128, 129, 1, 2, 3, 4}[r.IntN(6)]
	}
	if least := map[byte]int{58: 8, 6: 20, 17: 8}[v.Proto]; least > 0 && len(v.Body) >= least && r.IntN(4) > 0 {
		v.Body = rightBody(v.Proto, api.Ends6{Src: v.Src, Dst: v.Dst}, v.Body)
	}
	if v.Proto == 17 && len(v.Body) >= 8 && r.IntN(6) == 0 {
		v.Body = setNumber(v.Body, 6, 0)
	}
	return v
}

// someRoute is a datagram, now and then with a routing header that is not at its end.
func someRoute(r *rand.Rand, v api.V6) api.V6 {
	if r.IntN(8) == 0 {
		v.Heads = append(v.Heads, head(43, 1+r.IntN(3), byte(1+r.IntN(255))))
	}
	return v
}

// someError is an error of ICMPv6 about a packet of at most so many bytes of Body, which may be cut off.
func someError(r *rand.Rand, most int) api.Icmp {
	b := bytesOf(someRoute(r, someV6(r, most)), r.IntN(2)*r.IntN(100))
	if r.IntN(2) == 0 {
		b = b[:len(b)-r.IntN(len(b)-39)]
	}
	m := api.Icmp{Type: byte(1 + r.IntN(4)), Rest: r.Uint32(), Body: b}
	switch m.Type {
	case 1:
		m.Code = byte(r.IntN(6))
	case 2:
		m.Rest >>= r.IntN(20)
	case 3:
		m.Code = byte(r.Uint32())
	case 4:
		m.Code, m.Rest = byte(r.IntN(3)), r.Uint32N(42)
	}
	return m
}

// someWrong is a datagram with something that may not be, or that goes not to the other side; often nothing.
func someWrong(r *rand.Rand, v api.V6) api.V6 {
	switch r.IntN(16) {
	case 0:
		v.Frag, v.Off = true, []int{-1, 8192, 1 << 40, -1 << 62}[r.IntN(4)]
	case 1:
		v.Heads = append(v.Heads, api.Head{Kind: []byte{0, 43, 60, 44, 6}[r.IntN(5)], Body: someBytes(r, r.IntN(9))})
	case 2, 3:
		return someRoute(r, v)
	case 4:
		v.Proto = []byte{0, 1, 43, 44, 60}[r.IntN(5)]
	case 5:
		v.Body = someBytes(r, r.IntN(24))
	case 6:
		v.Body, v.Proto = make([]byte, 65500+r.IntN(40)), 47
	case 7:
		v.Label += 1 << 20
	case 8:
		v.More, v.ID = true, 5
	case 9:
		if len(v.Body) > 0 {
			v.Body[r.IntN(len(v.Body))] ^= 1 << r.IntN(8)
		}
	}
	return v
}

package tosix_test

import (
	"fmt"
	"math/rand/v2"

	"ferryman/api"
)

// ends4 are the ends of the datagrams that the tests make.
var ends4 = api.Ends4{Src: api.Addr4{10, 0, 0, 1}, Dst: api.Addr4{10, 0, 0, 2}}

// datagram is one that is no fragment.
func datagram(proto byte, body []byte) api.V4 {
	return api.V4{TOS: 3, ID: 0xbeef, TTL: 7, Proto: proto, Src: ends4.Src, Dst: ends4.Dst, Body: body}
}

// fragment is a datagram as a part of another.
func fragment(v api.V4, off int, more bool) api.V4 {
	v.Off, v.MF = off, more
	return v
}

// kindsOfFragment are a datagram as each kind of fragment: MF alone, Off alone, both.
func kindsOfFragment(v api.V4) []api.V4 {
	return []api.V4{fragment(v, 0, true), fragment(v, 1, false), fragment(v, 8191, false), fragment(v, 185, true), fragment(v, 8191, true)}
}

// checkAt is the place of a protocol's checksum.
func checkAt(proto byte) int { return map[byte]int{6: 16, 17: 6, 1: 2}[proto] }

// rightBody is a Body of TCP, UDP or ICMP with a right checksum: its other bytes are handed in. Of UDP it has its length, unless it is a fragment's.
func rightBody(proto byte, ends api.Ends4, b []byte) []byte {
	if proto == 17 {
		b = setNumber(b, 4, len(b))
	}
	at := checkAt(proto)
	b = setNumber(b, at, 0)
	var ahead []byte
	if proto != 1 {
		ahead = pseudo4(ends, int(proto), len(b))
	}
	check := 65535 - plainSum(append(ahead, b...))
	if check == 0 && proto == 17 {
		check = 65535
	}
	return setNumber(b, at, check)
}

// message is a datagram of ICMP with a right checksum.
func message(kind, code byte, rest uint32, body []byte) api.V4 {
	b := append(unhex(fmt.Sprintf("%02x%02x0000%08x", kind, code, rest)), body...)
	return datagram(1, rightBody(1, ends4, b))
}

// bytesOf are a datagram's bytes, written apart from the program; its length may be said to be more by so many bytes. Its checksum is wrong: nobody asks for it.
func bytesOf(v api.V4, more int) []byte {
	size := 20 + len(v.Options)
	word := v.Off
	if v.MF {
		word += 8192
	}
	if v.DF {
		word += 16384
	}
	b := unhex(fmt.Sprintf("4%x%02x%04x%04x%04x%02x%02x%04x%x%x",
		size/4, v.TOS, size+len(v.Body)+more, v.ID, word, v.TTL, v.Proto, 0xabcd, v.Src, v.Dst))
	return append(append(b, v.Options...), v.Body...)
}

// someOptions are options without a source route that is not at its end.
func someOptions(r *rand.Rand) []byte {
	for {
		if o := someBytes(r, 4*r.IntN(11)); !plainRouted(o) {
			return o
		}
	}
}

// someProto is a protocol: often one that is known.
func someProto(r *rand.Rand) byte {
	rare := []byte{0, 43, 44, 58, 59, 60, byte(r.Uint32())}[r.IntN(7)]
	return []byte{6, 6, 6, 17, 17, 17, 1, 1, 1, 1, 47, rare}[r.IntN(12)]
}

// someV4 is a datagram of any protocol, whole or a fragment, often with a right checksum.
func someV4(r *rand.Rand, most int) api.V4 {
	v := api.V4{
		TOS: byte(r.Uint32()), ID: uint16(r.Uint32()), DF: r.IntN(2) == 0, TTL: byte(r.Uint32()), Proto: someProto(r),
		Src: api.Addr4(someBytes(r, 4)), Dst: api.Addr4(someBytes(r, 4)), Options: someOptions(r), Body: someBytes(r, r.IntN(most)),
	}
	if r.IntN(4) == 0 {
		v.MF, v.Off = r.IntN(2) == 0, r.IntN(2)*r.IntN(8192)
	}
	if v.Proto == 1 && len(v.Body) > 0 && r.IntN(4) > 0 {
		v.Body[0] = []byte{0, 8, 3, 11, 12}[r.IntN(5)]
	}
	if least := map[byte]int{1: 8, 6: 20, 17: 8}[v.Proto]; least > 0 && len(v.Body) >= least && r.IntN(4) > 0 {
		v.Body = rightBody(v.Proto, api.Ends4{Src: v.Src, Dst: v.Dst}, v.Body)
	}
	if v.Proto == 17 && len(v.Body) >= 8 && r.IntN(4) == 0 {
		v.Body = setNumber(v.Body, 6, 0)
	}
	return v
}

// someError is an error of ICMP about a packet of at most so many bytes, which may be cut off.
func someError(r *rand.Rand, most int) api.Icmp {
	b := bytesOf(someV4(r, most), r.IntN(2)*r.IntN(100))
	b = b[:len(b)-r.IntN(2)*r.IntN(len(b))]
	m := api.Icmp{Rest: r.Uint32(), Body: b}
	switch m.Type = []byte{3, 11, 12}[r.IntN(3)]; m.Type {
	case 3:
		m.Code = byte(r.IntN(17))
	case 11:
		m.Code = byte(r.Uint32())
	case 12:
		m.Code, m.Rest = byte(r.IntN(3)), r.Uint32N(22)<<24|m.Rest>>8
	}
	return m
}

// someWrong is a datagram with something that may not be, or that goes not to the other side; often nothing.
func someWrong(r *rand.Rand, v api.V4) api.V4 {
	switch r.IntN(14) {
	case 0:
		v.Off = []int{-1, 8192, 1 << 40, -1 << 62}[r.IntN(4)]
	case 1:
		v.Options = someBytes(r, r.IntN(60))
	case 2:
		v.Options = []byte{[]byte{131, 137}[r.IntN(2)], 7, byte(4 + 4*r.IntN(2)), 1, 2, 3, 4, 0}
	case 3:
		v.Proto = []byte{0, 43, 44, 58, 60}[r.IntN(5)]
	case 4:
		v.Body = someBytes(r, r.IntN(24))
	case 5:
		v.Body = make([]byte, 65500+r.IntN(40))
	case 6:
		if len(v.Body) > 0 {
			v.Body[r.IntN(len(v.Body))] ^= 1 << r.IntN(8)
		}
	}
	return v
}

package icmp

import (
	"bytes"

	"ferryman/api"
)

// Types over IPv4.
const (
	answer4  = 0
	unreach4 = 3
	ask4     = 8
	time4    = 11
	param4   = 12
)

const codeBig4 = 4 // over IPv4 it marks, of those of unreach4, the ones that tell of what is too big

// Types over IPv6.
const (
	unreach6 = 1
	big6     = 2
	time6    = 3
	param6   = 4
	ask6     = 128
	answer6  = 129
)

// How many bytes of a packet an error tells at most: with the headers ahead of them they are 576 and 1280, which go whole everywhere.
const (
	mostTold4 = 548
	mostTold6 = 1232
)

// Kind4 is what a message over IPv4 is good for.
func Kind4(m api.Icmp) api.IcmpKind {
	switch m.Type {
	case ask4:
		return api.IcmpAsk
	case answer4:
		return api.IcmpAnswer
	case unreach4:
		if m.Code == codeBig4 {
			return api.IcmpBig
		}
		return api.IcmpUnreach
	case time4:
		return api.IcmpTime
	case param4:
		return api.IcmpParam
	}
	return api.IcmpOther
}

// Kind6 is what a message over IPv6 is good for.
func Kind6(m api.Icmp) api.IcmpKind {
	switch m.Type {
	case ask6:
		return api.IcmpAsk
	case answer6:
		return api.IcmpAnswer
	case unreach6:
		return api.IcmpUnreach
	case big6:
		return api.IcmpBig
	case time6:
		return api.IcmpTime
	case param6:
		return api.IcmpParam
	}
	return api.IcmpOther
}

// Error4 is an error over IPv4 about a packet.
func Error4(kind api.IcmpKind, code uint8, rest uint32, packet []byte) (api.Icmp, api.Errno) {
	m := api.Icmp{Code: code, Rest: rest}
	switch kind {
	case api.IcmpBig:
		m.Code = codeBig4
		fallthrough
	case api.IcmpUnreach:
		m.Type = unreach4
	case api.IcmpTime:
		m.Type = time4
	case api.IcmpParam:
		m.Type = param4
	default:
		return api.Icmp{}, api.ErrNoError
	}
	// The code may have made an IcmpBig of an IcmpUnreach.
	if Kind4(m) != kind {
		return api.Icmp{}, api.ErrNoError
	}
	return about(m, packet, mostTold4), api.OK
}

// Error6 is an error over IPv6 about a packet.
func Error6(kind api.IcmpKind, code uint8, rest uint32, packet []byte) (api.Icmp, api.Errno) {
	m := api.Icmp{Code: code, Rest: rest}
	switch kind {
	case api.IcmpUnreach:
		m.Type = unreach6
	case api.IcmpBig:
		m.Type = big6
	case api.IcmpTime:
		m.Type = time6
	case api.IcmpParam:
		m.Type = param6
	default:
		return api.Icmp{}, api.ErrNoError
	}
	return about(m, packet, mostTold6), api.OK
}

// about is a message that tells a packet's first bytes.
func about(m api.Icmp, packet []byte, most int) api.Icmp {
	m.Body = bytes.Clone(packet[:min(len(packet), most)])
	return m
}

package tofour

import (
	"bytes"

	"ferryman/api"
	"ferryman/icmp"
)

const mostBody = api.MaxPacket - 8 // bytes behind a message's own 8

// Types of echoes.
const (
	answer4 = 0
	ask4    = 8
	ask6    = 128
	answer6 = 129
)

// echoType is the type of an echo over IPv4, by that over IPv6; false: it is none of an echo.
func echoType(over6 uint8) (uint8, bool) {
	switch over6 {
	case ask6:
		return ask4, true
	case answer6:
		return answer4, true
	}
	return 0, false
}

// isError tells whether a message tells of a packet.
func isError(m api.Icmp) bool {
	switch icmp.Kind6(m) {
	case api.IcmpUnreach, api.IcmpBig, api.IcmpTime, api.IcmpParam:
		return true
	}
	return false
}

// messageBody is the Body of a datagram of ICMP.
func messageBody(v api.V6, inner api.Ends4) []byte {
	must(!fragment(v), api.ErrFrag)
	m, e := icmp.Parse6(v.Src, v.Dst, v.Body)
	good(e)
	b, e := icmp.Write4(message(m, inner))
	good(e)
	return b
}

// message is a message as one of ICMP over IPv4.
func message(m api.Icmp, inner api.Ends4) api.Icmp {
	kind, code, rest := meaning(m)
	must(len(m.Body) <= mostBody, api.ErrLong)
	if t, is := echoType(m.Type); is {
		return api.Icmp{Type: t, Code: code, Rest: rest, Body: bytes.Clone(m.Body)}
	}
	w, e := icmp.Error4(kind, code, rest, inside(m.Body, inner))
	good(e)
	return w
}

// meaning is the kind, Code and Rest over IPv4 of a message over IPv6. It gives up on one that means nothing there.
func meaning(m api.Icmp) (api.IcmpKind, uint8, uint32) {
	switch kind := icmp.Kind6(m); kind {
	case api.IcmpAsk, api.IcmpAnswer:
		return kind, m.Code, m.Rest
	case api.IcmpUnreach:
		return kind, unreached(m.Code), 0
	case api.IcmpBig:
		must(m.Code == 0, api.ErrIcmp)
		return kind, 0, uint32(MTU(m.Rest))
	case api.IcmpTime:
		return kind, m.Code, 0
	case api.IcmpParam:
		return param(m)
	}
	panic(gaveUp(api.ErrIcmp))
}

// unreached is the Code over IPv4 of what came nowhere.
func unreached(code uint8) uint8 {
	const (
		noHost = 1
		noPort = 3
		forbid = 10
	)
	switch code {
	case 0, 2, 3:
		return noHost
	case 1:
		return forbid
	case 4:
		return noPort
	}
	panic(gaveUp(api.ErrIcmp))
}

// param is what meaning tells of a header at fault.
func param(m api.Icmp) (api.IcmpKind, uint8, uint32) {
	const noProtocol = 2 // of IcmpUnreach: a next header that nobody there knows
	switch m.Code {
	case 0:
		at, known := Pointer(m.Rest)
		must(known, api.ErrIcmp)
		return api.IcmpParam, 0, uint32(at) << 24
	case 1:
		return api.IcmpUnreach, noProtocol, 0
	}
	panic(gaveUp(api.ErrIcmp))
}

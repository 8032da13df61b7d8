package tosix

import (
	"bytes"

	"ferryman/api"
	"ferryman/icmp"
)

const mostBody = api.MaxPacket - 8 // bytes behind a message's own 8

// Types of echoes.
const (
	answer4 = 0
	ask4    = 8
	ask6    = 128
	answer6 = 129
)

// echoType is the type of an echo over IPv6, by that over IPv4; false: it is none of an echo.
func echoType(over4 uint8) (uint8, bool) {
	switch over4 {
	case ask4:
		return ask6, true
	case answer4:
		return answer6, true
	}
	return 0, false
}

// isError tells whether a message tells of a packet.
func isError(m api.Icmp) bool {
	switch icmp.Kind4(m) {
	case api.IcmpUnreach, api.IcmpBig, api.IcmpTime, api.IcmpParam:
		return true
	}
	return false
}

// messageBody is the Body of a datagram of ICMP.
func messageBody(v api.V4, outer, inner api.Ends6) []byte {
	must(!fragment(v), api.ErrFrag)
	m, e := icmp.Parse4(v.Body)
	good(e)
	b, e := icmp.Write6(outer.Src, outer.Dst, message(m, inner))
	good(e)
	return b
}

// message is a message as one of ICMPv6.
func message(m api.Icmp, inner api.Ends6) api.Icmp {
	kind, code, rest := meaning(m)
	must(len(m.Body) <= mostBody, api.ErrLong)
	if t, is := echoType(m.Type); is {
		return api.Icmp{Type: t, Code: code, Rest: rest, Body: bytes.Clone(m.Body)}
	}
	w, e := icmp.Error6(kind, code, rest, inside(m.Body, inner))
	good(e)
	return w
}

// meaning is the kind, Code and Rest over IPv6 of a message over IPv4. It gives up on one that means nothing there.
func meaning(m api.Icmp) (api.IcmpKind, uint8, uint32) {
	switch kind := icmp.Kind4(m); kind {
	case api.IcmpAsk, api.IcmpAnswer:
		return kind, m.Code, m.Rest
	case api.IcmpBig:
		return kind, 0, MTU(uint16(m.Rest))
	case api.IcmpUnreach:
		return unreached(m.Code)
	case api.IcmpTime:
		return kind, m.Code, 0
	case api.IcmpParam:
		at, known := Pointer(uint8(m.Rest >> 24))
		must(known && (m.Code == 0 || m.Code == 2), api.ErrIcmp)
		return kind, 0, at
	}
	panic(gaveUp(api.ErrIcmp))
}

// unreached is what meaning tells of what came nowhere, and was not too big.
func unreached(code uint8) (api.IcmpKind, uint8, uint32) {
	const (
		noRoute  = 0
		forbid   = 1
		noPort   = 4
		noHeader = 1 // of IcmpParam: a next header that nobody there knows
	)
	switch code {
	case 0, 1, 5, 6, 7, 8, 11, 12:
		return api.IcmpUnreach, noRoute, 0
	case 9, 10, 13, 15:
		return api.IcmpUnreach, forbid, 0
	case 3:
		return api.IcmpUnreach, noPort, 0
	case 2:
		return api.IcmpParam, noHeader, nextAt
	}
	panic(gaveUp(api.ErrIcmp))
}

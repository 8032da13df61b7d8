package segment

import (
	"bytes"

	"ferryman/api"
	"ferryman/sum"
)

const portsSize = 2 * wordSize // bytes of both ports, ahead of all else

// checkAt is the place of a protocol's checksum; false: it is neither TCP nor UDP.
func checkAt(proto uint8) (int, bool) {
	switch proto {
	case api.ProtoTCP:
		return tcpCheckAt, true
	case api.ProtoUDP:
		return udpCheckAt, true
	}
	return 0, false
}

// Ports are those of bytes, which may be cut off behind them.
func Ports(proto uint8, b []byte) (uint16, uint16, bool) {
	if _, known := checkAt(proto); !known || len(b) < portsSize {
		return 0, 0, false
	}
	return wordOf(b), wordOf(b[wordSize:]), true
}

// change is some bytes of which a checksum tells, as they were and as they are then.
type change struct{ from, to []byte }

// updated is a checksum behind changes, one behind the other.
func updated(check uint16, changes ...change) (uint16, api.Errno) {
	for _, c := range changes {
		var e api.Errno
		if check, e = sum.Update(check, c.from, c.to); e != api.OK {
			return 0, e
		}
	}
	return check, api.OK
}

// Rewrite is bytes, which may be cut off behind their ports, with other ones, and with other addresses in their checksum.
func Rewrite(proto uint8, b, from, to []byte, src, dst uint16) ([]byte, api.Errno) {
	at, known := checkAt(proto)
	if !known {
		return nil, api.ErrProto
	}
	if len(b) < portsSize {
		return nil, api.ErrShortSeg
	}
	out := bytes.Clone(b)
	copy(out, wordBytes(src, dst))
	was, there := wordAt(b, at)
	// Also where there is no checksum, for from and to must be words all the same.
	check, e := updated(was, change{from, to}, change{b[:portsSize], out[:portsSize]})
	if e != api.OK {
		return nil, e
	}
	if there {
		putCheck(proto, out[at:], was, check)
	}
	return out, api.OK
}

// wordAt is the word at a place; false: it is not there, or cut off.
func wordAt(b []byte, at int) (uint16, bool) {
	if len(b) < at+wordSize {
		return 0, false
	}
	return wordOf(b[at:]), true
}

// putCheck puts a checksum in the place of an elder one.
func putCheck(proto uint8, place []byte, was, check uint16) {
	switch proto {
	case api.ProtoUDP:
		if was == 0 {
			return // a datagram without a checksum stays without one
		}
		check = neverZero(check)
		fallthrough
	case api.ProtoTCP:
		putWord(place, check)
	}
}

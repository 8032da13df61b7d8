package icmp

import (
	"ferryman/api"
	"ferryman/sum"
)

// over is what messages go over: it tells what their checksum has ahead of so many bytes, or ErrLong of too many.
type over func(length int) ([]byte, api.Errno)

// over4 tells of no pseudo header: over IPv4 a checksum is that of the message alone.
func over4(length int) ([]byte, api.Errno) {
	if length > api.MaxPacket {
		return nil, api.ErrLong
	}
	return nil, api.OK
}

func over6(src, dst api.Addr6) over {
	return func(length int) ([]byte, api.Errno) { return sum.Pseudo6(src, dst, api.ProtoICMP6, length) }
}

// check is the checksum of a message's parts, one behind the other.
func (o over) check(parts ...[]byte) (uint16, api.Errno) {
	length := 0
	for _, part := range parts {
		length += len(part)
	}
	ahead, e := o(length)
	if e != api.OK {
		return 0, e
	}
	return sum.Of(append([][]byte{ahead}, parts...)...), api.OK
}

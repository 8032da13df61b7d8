package segment

import (
	"ferryman/api"
	"ferryman/sum"
)

// over is what segments go over: it tells the pseudo header of a protocol and of how many bytes there are, or ErrLong of too many.
type over func(proto uint8, length int) ([]byte, api.Errno)

func over4(src, dst api.Addr4) over {
	return func(proto uint8, length int) ([]byte, api.Errno) { return sum.Pseudo4(src, dst, proto, length) }
}

func over6(src, dst api.Addr6) over {
	return func(proto uint8, length int) ([]byte, api.Errno) { return sum.Pseudo6(src, dst, proto, length) }
}

// check is the checksum of a pseudo header and of parts, one behind the other.
func (o over) check(proto uint8, parts ...[]byte) (uint16, api.Errno) {
	length := 0
	for _, part := range parts {
		length += len(part)
	}
	head, e := o(proto, length)
	if e != api.OK {
		return 0, e
	}
	return sum.Of(append([][]byte{head}, parts...)...), api.OK
}

// right tells by what bytes that hold their checksum are wrong.
func (o over) right(proto uint8, b []byte) api.Errno {
	check, e := o.check(proto, b)
	if e == api.OK && check != 0 {
		e = api.ErrSumSeg
	}
	return e
}

// neverZero is a checksum as UDP writes it, where 0 says that there is none.
func neverZero(check uint16) uint16 {
	if check == 0 {
		return 0xffff
	}
	return check
}

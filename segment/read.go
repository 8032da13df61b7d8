package segment

import (
	"bytes"

	"ferryman/api"
)

const wordSize = 2 // bytes

// rest is what is left of bytes that are read from the front. Who reads asks ahead how many there are.
type rest struct{ left []byte }

// run shares the bytes that it reads: who answers them takes a copy.
func (r *rest) run(n int) []byte {
	b := r.left[:n]
	r.left = r.left[n:]
	return b
}

func (r *rest) word() uint16 { return wordOf(r.run(wordSize)) }

func wordOf(b []byte) uint16 { return uint16(b[0])<<8 | uint16(b[1]) }

func (r *rest) long() uint32 {
	high := r.word()
	return uint32(high)<<16 | uint32(r.word())
}

// datagram is the bytes of UDP that are left behind its header, and what that says.
type datagram struct {
	rest
	u     api.UDP
	check uint16
}

// readUDP reads a header; its caller asks for the checksum.
func readUDP(b []byte) (datagram, api.Errno) {
	d := datagram{rest: rest{left: b}}
	if len(b) < udpHead {
		return d, api.ErrShortSeg
	}
	d.u.Src = d.word()
	d.u.Dst = d.word()
	if int(d.word()) != len(b) {
		return d, api.ErrLengthSeg
	}
	d.check = d.word()
	return d, api.OK
}

// whole is the datagram with its Data.
func (d *datagram) whole() api.UDP {
	d.u.Data = bytes.Clone(d.left)
	return d.u
}

// ParseUDP4 is the datagram of bytes over IPv4, and whether its checksum was 0.
func ParseUDP4(src, dst api.Addr4, b []byte) (api.UDP, bool, api.Errno) {
	d, e := readUDP(b)
	if e == api.OK && d.check != 0 {
		e = over4(src, dst).right(api.ProtoUDP, b)
	}
	if e != api.OK {
		return api.UDP{}, false, e
	}
	return d.whole(), d.check == 0, api.OK
}

// ParseUDP6 is the datagram of bytes over IPv6, where none goes without a checksum.
func ParseUDP6(src, dst api.Addr6, b []byte) (api.UDP, api.Errno) {
	d, e := readUDP(b)
	if e == api.OK && d.check == 0 {
		e = api.ErrSumSeg
	}
	if e == api.OK {
		e = over6(src, dst).right(api.ProtoUDP, b)
	}
	if e != api.OK {
		return api.UDP{}, e
	}
	return d.whole(), api.OK
}

// ParseTCP4 is the segment of bytes over IPv4.
func ParseTCP4(src, dst api.Addr4, b []byte) (api.TCP, api.Errno) {
	return parseTCP(over4(src, dst), b)
}

// ParseTCP6 is the segment of bytes over IPv6.
func ParseTCP6(src, dst api.Addr6, b []byte) (api.TCP, api.Errno) {
	return parseTCP(over6(src, dst), b)
}

func parseTCP(o over, b []byte) (api.TCP, api.Errno) {
	s, e := readTCP(b)
	if e == api.OK {
		e = o.right(api.ProtoTCP, b)
	}
	if e != api.OK {
		return api.TCP{}, e
	}
	return s.whole(), api.OK
}

// segment is the bytes of TCP that are left behind its first 20, and what those say.
type segment struct {
	rest
	t      api.TCP
	length int // of all ahead of Data
}

// readTCP reads all ahead of Options; its caller asks for the checksum.
func readTCP(b []byte) (segment, api.Errno) {
	s := segment{rest: rest{left: b}}
	if len(b) < tcpHead {
		return s, api.ErrShortSeg
	}
	s.t.Src = s.word()
	s.t.Dst = s.word()
	s.t.Seq = s.long()
	s.t.Ack = s.long()
	w := s.word()
	s.t.Flags, s.length = uint8(w&mostFlags), int(w>>lengthBits)*unit
	if s.length < tcpHead || s.length > len(b) {
		return s, api.ErrLengthSeg
	}
	s.t.Window = s.word()
	s.word() // the checksum is no field: a written one is reckoned
	s.t.Urgent = s.word()
	return s, api.OK
}

// whole is the segment with its Options and Data.
func (s *segment) whole() api.TCP {
	s.t.Options = bytes.Clone(s.run(s.length - tcpHead))
	s.t.Data = bytes.Clone(s.left)
	return s.t
}

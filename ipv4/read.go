package ipv4

import (
	"bytes"

	"ferryman/api"
	"ferryman/sum"
)

// fault is by what bytes are none, and at which place: what is thrown here, and caught at the face.
type fault struct {
	at int
	e  api.Errno
}

func must(good bool, at int, e api.Errno) {
	if !good {
		panic(fault{at, e})
	}
}

// rest is what is left of bytes that are read from the front. Who reads asks ahead how many there are.
type rest struct{ left []byte }

// run shares the bytes that it reads: who answers them takes a copy.
func (r *rest) run(n int) []byte {
	b := r.left[:n]
	r.left = r.left[n:]
	return b
}

func (r *rest) octet() byte { return r.run(1)[0] }

func (r *rest) word() uint16 {
	b := r.run(2)
	return uint16(b[0])<<8 | uint16(b[1])
}

// reader is a datagram's bytes that are left, and what those ahead of them say.
type reader struct {
	rest
	tos  uint8
	size int // of the header
	all  int // of the datagram
}

// begin reads a header up to the length of all, which its caller holds against how many bytes there are.
func begin(b []byte) *reader {
	must(len(b) >= leastHead, 0, api.ErrShort4)
	r := &reader{rest: rest{left: b}}
	first := r.octet()
	must(first>>4 == version, 0, api.ErrVersion4)
	r.size = int(first&0xf) * unit
	must(r.size >= leastHead && r.size <= len(b), 0, api.ErrHead4)
	r.tos = r.octet()
	r.all = int(r.word())
	return r
}

// datagram reads what stands behind the length of all.
func (r *reader) datagram() api.V4 {
	v := api.V4{TOS: r.tos}
	v.ID = r.word()
	w := r.word()
	v.DF, v.MF, v.Off = w&bitDF != 0, w&bitMF != 0, int(w&mostOff)
	v.TTL = r.octet()
	v.Proto = r.octet()
	r.word() // the checksum is no field: a written one is reckoned
	copy(v.Src[:], r.run(len(v.Src)))
	copy(v.Dst[:], r.run(len(v.Dst)))
	v.Options = bytes.Clone(r.run(r.size - leastHead))
	v.Body = bytes.Clone(r.left)
	return v
}

// Parse is the datagram of bytes; with an error the place.
func Parse(b []byte) (v api.V4, at int, e api.Errno) {
	defer func() {
		if f, ok := recover().(fault); ok {
			v, at, e = api.V4{}, f.at, f.e
		}
	}()
	r := begin(b)
	must(r.all == len(b), lengthAt, api.ErrLength4)
	must(sum.Good(b[:r.size]), checkAt, api.ErrSum4)
	return r.datagram(), 0, api.OK
}

// Part is the datagram of its first bytes; with an error the place.
func Part(b []byte) (v api.V4, at int, e api.Errno) {
	defer func() {
		if f, ok := recover().(fault); ok {
			v, at, e = api.V4{}, f.at, f.e
		}
	}()
	r := begin(b)
	// The header is there, so what is at least all bytes is at least the header.
	must(r.all >= len(b), lengthAt, api.ErrLength4)
	return r.datagram(), 0, api.OK
}

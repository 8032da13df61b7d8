package ipv6

import (
	"bytes"

	"ferryman/api"
)

// fault is by what bytes are none, and at which place: what is thrown here, and caught at the face.
type fault struct {
	at int
	e  api.Errno
}

func must(good bool, at int, e api.Errno) {
	if !good {
		panic(fault{at, e})
	}
}

// rest is what is left of bytes that are read from the front, and the place where it begins. Who reads asks ahead how many there are.
type rest struct {
	left []byte
	at   int
}

// run shares the bytes that it reads: who answers them takes a copy.
func (r *rest) run(n int) []byte {
	b := r.left[:n]
	r.left, r.at = r.left[n:], r.at+n
	return b
}

func (r *rest) octet() uint8 { return r.run(1)[0] }

func (r *rest) word() uint16 {
	b := r.run(2)
	return uint16(b[0])<<8 | uint16(b[1])
}

func (r *rest) long() uint32 {
	high := r.word()
	return uint32(high)<<16 | uint32(r.word())
}

// reader is a datagram's bytes that are left, and the datagram as far as those ahead of them say it.
type reader struct {
	rest
	v    api.V6
	next uint8 // what is said to stand where the rest begins
}

// begin reads the first bytes up to how many stand behind them, which it answers: its caller holds it against how many there are.
func begin(b []byte) (*reader, int) {
	must(len(b) >= front, 0, api.ErrShort6)
	r := &reader{rest: rest{left: b}}
	w := r.long()
	must(w>>versionBits == version, 0, api.ErrVersion6)
	r.v.Class, r.v.Label = uint8(w>>classBits), w&mostLabel
	return r, int(r.word())
}

// datagram reads what stands behind the length.
func (r *reader) datagram() api.V6 {
	r.next = r.octet()
	r.v.Hop = r.octet()
	copy(r.v.Src[:], r.run(len(r.v.Src)))
	copy(r.v.Dst[:], r.run(len(r.v.Dst)))
	for isHead(r.next) {
		r.head()
	}
	if r.next == api.ProtoFragment {
		r.fragHead()
	}
	// Behind a fragment header anything may be said to stand: it is not read as a header.
	r.v.Proto = r.next
	r.v.Body = bytes.Clone(r.left)
	return r.v
}

func (r *reader) head() {
	must(len(r.left) >= unit, r.at, api.ErrShort6)
	size := (int(r.left[1]) + 1) * unit
	must(len(r.left) >= size, r.at, api.ErrShort6)
	n := len(r.v.Heads)
	must(n < api.MaxHeads && kindMayBe(r.next, n), r.at, api.ErrHead6)
	b := r.run(size)
	r.v.Heads = append(r.v.Heads, api.Head{Kind: r.next, Body: bytes.Clone(b[headFront:])})
	r.next = b[0]
}

func (r *reader) fragHead() {
	must(len(r.left) >= fragHead, r.at, api.ErrShort6)
	r.next = r.octet()
	r.octet() // says 0, and may be anything
	w := r.word()
	r.v.Frag, r.v.Off, r.v.More = true, int(w>>offBits), w&bitMore != 0
	r.v.ID = r.long()
}

// Parse is the datagram of bytes; with an error the place.
func Parse(b []byte) (v api.V6, at int, e api.Errno) {
	defer func() {
		if f, ok := recover().(fault); ok {
			v, at, e = api.V6{}, f.at, f.e
		}
	}()
	r, behind := begin(b)
	must(behind == len(b)-front, lengthAt, api.ErrLength6)
	return r.datagram(), 0, api.OK
}

// Part is the datagram of bytes that may be cut off behind the headers, as errors tell them; with an error the place.
func Part(b []byte) (v api.V6, at int, e api.Errno) {
	defer func() {
		if f, ok := recover().(fault); ok {
			v, at, e = api.V6{}, f.at, f.e
		}
	}()
	r, behind := begin(b)
	must(behind >= len(b)-front, lengthAt, api.ErrLength6)
	return r.datagram(), 0, api.OK
}

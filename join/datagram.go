package join

import (
	"slices"
	"sort"

	"ferryman/api"
	"ferryman/ipv4"
	"ferryman/ipv6"
)

const nextAt = 6 // the place of the first next header of an IPv6 datagram

// datagram is what came of one that waits.
type datagram struct {
	key    key
	began  int
	pieces []piece  // by their places; each may stand ahead of the next one
	size   int      // bytes of all pieces
	late   api.Late // what is told if it is late: of its fragments nothing but the one with Off 0 is kept beside its bytes
}

// place is where a piece stands among the others, or would.
func (d *datagram) place(p piece) int {
	return sort.Search(len(d.pieces), func(i int) bool { return d.pieces[i].from >= p.from })
}

// has tells whether the piece is there, at its place.
func (d *datagram) has(at int, p piece) bool {
	return at < len(d.pieces) && d.pieces[at].same(p)
}

// takes tells whether the others and one more at its place go together. Who may stand between its neighbours may stand among all.
func (d *datagram) takes(at int, p piece) bool {
	if at > 0 && !d.pieces[at-1].ahead(p) {
		return false
	}
	return at == len(d.pieces) || p.ahead(d.pieces[at])
}

func (d *datagram) add(at int, f fragment) {
	d.pieces = slices.Insert(d.pieces, at, f.piece)
	d.size += len(f.body)
	if f.from == 0 {
		d.late = f.late
	}
}

// whole tells whether all bytes are there: none is twice, so that it is enough to know how many there are.
func (d *datagram) whole() bool {
	last := d.pieces[len(d.pieces)-1]
	return !last.more && d.size == last.end()
}

// body is all bytes of a whole datagram.
func (d *datagram) body() []byte {
	b := make([]byte, 0, d.size)
	for _, p := range d.pieces {
		b = append(b, p.body...)
	}
	return b
}

// whole4 is a whole datagram of IPv4, that waits no more: so its lists may be handed out.
func (d *datagram) whole4() api.V4 {
	v := d.late.V4
	v.MF, v.Body = false, d.body()
	good(ipv4.Check(v))
	return v
}

// whole6 is a whole datagram of IPv6, that waits no more: so its lists may be handed out.
func (d *datagram) whole6() api.V6 {
	v := d.late.V6
	v.Frag, v.ID, v.More, v.Body = false, 0, false, d.body()
	switch v.Proto {
	case api.ProtoHops, api.ProtoRouting, api.ProtoFragment, api.ProtoDest:
		return readAgain(v)
	}
	good(ipv6.Check(v))
	return v
}

// readAgain is a datagram whose Body begins with a header that only its bytes tell.
func readAgain(v api.V6) api.V6 {
	next := v.Proto
	v.Proto = api.ProtoNone // such a datagram may be written, and has the same bytes but for one
	b, e := ipv6.Write(v)
	good(e)
	b[lastNext(v)] = next
	w, _, e := ipv6.Parse(b)
	must(e == api.OK, api.ErrV6)
	return w
}

// lastNext is the place of the next header ahead of the Body.
func lastNext(v api.V6) int {
	if len(v.Heads) == 0 {
		return nextAt
	}
	v.Body = nil
	v.Heads = v.Heads[:len(v.Heads)-1]
	n, _, _ := ipv6.Size(v)
	return n
}

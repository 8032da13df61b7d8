package join

import (
	"bytes"
	"slices"

	"ferryman/api"
)

const unit = 8 // bytes in which Off is told

// key is what all fragments of a datagram have in common. An IPv4 address stands in the first bytes; proto is IPv4's alone.
type key struct {
	six   bool
	src   api.Addr6
	dst   api.Addr6
	proto uint8
	id    uint32
}

// piece is some bytes of a datagram, from a place on, and whether others stand behind them.
type piece struct {
	from int
	body []byte
	more bool
}

// fragment is one of either kind: whose it is, its bytes, and what is told of a late datagram that begins with it.
type fragment struct {
	key
	piece
	late api.Late
}

func fragment4(v api.V4) fragment {
	k := key{proto: v.Proto, id: uint32(v.ID)}
	copy(k.src[:], v.Src[:])
	copy(k.dst[:], v.Dst[:])
	return fragment{k, piece{unit * v.Off, v.Body, v.MF}, api.Late{First: true, V4: v}}
}

func fragment6(v api.V6) fragment {
	k := key{six: true, src: v.Src, dst: v.Dst, id: v.ID}
	return fragment{k, piece{unit * v.Off, v.Body, v.More}, api.Late{Six: true, First: true, V6: v}}
}

func (p piece) end() int { return p.from + len(p.body) }

func (p piece) mayBe() bool {
	if p.more && (len(p.body) == 0 || len(p.body)%unit != 0) {
		return false
	}
	return p.end() <= api.MaxPacket
}

func (p piece) same(q piece) bool {
	return p.from == q.from && p.more == q.more && bytes.Equal(p.body, q.body)
}

// ahead tells whether a piece may stand somewhere ahead of another one: the last one of all may not, even if it has no bytes.
func (p piece) ahead(q piece) bool { return p.more && p.end() <= q.from }

// own4 is a datagram that shares no memory with the one handed in.
func own4(v api.V4) api.V4 {
	v.Options, v.Body = bytes.Clone(v.Options), bytes.Clone(v.Body)
	return v
}

// own6 is a datagram that shares no memory with the one handed in.
func own6(v api.V6) api.V6 {
	v.Heads, v.Body = slices.Clone(v.Heads), bytes.Clone(v.Body)
	for i, h := range v.Heads {
		v.Heads[i].Body = bytes.Clone(h.Body)
	}
	return v
}

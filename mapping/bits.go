package mapping

import (
	"ferryman/api"
	"ferryman/field"
)

const (
	bits4    = 32 // of an IPv4 address
	endBits  = 64 // of an IPv6 address, ahead of what a MAP address says of the edge's IPv4 side
	gapBits  = 16 // of a MAP address, ahead of its IPv4 address
	psidRoom = 16 // of a MAP address, behind its IPv4 address
)

// hostBits is how many EA bits are behind V4's in an edge's IPv4 address.
func hostBits(r api.Rule) int { return min(r.EA, bits4-r.V4.Len) }

// psidBits is how many EA bits, the last ones, are a PSID: those for which an IPv4 address has no room.
func psidBits(r api.Rule) int { return r.EA - hostBits(r) }

// shared tells whether edges of a rule have an IPv4 address in common.
func shared(r api.Rule) bool { return psidBits(r) > 0 }

// anySet is the port set of the PSID 0.
func anySet(r api.Rule) api.PortSet {
	return api.PortSet{Offset: r.Offset, Len: psidBits(r)}
}

// edgeOf is the edge of EA bits, of which there are not too many, of a rule that may be.
func edgeOf(r api.Rule, ea uint64) api.Edge {
	host, psid := ea>>psidBits(r), ea&(1<<psidBits(r)-1)
	first6, bits := head(r.V6.Addr[:], r.V6.Len), api.Run{N: r.EA, V: ea}
	var e api.Edge
	e.End = api.Prefix6{Addr: six(first6, bits), Len: r.V6.Len + r.EA}
	e.V4 = api.Prefix4{
		Addr: four(head(r.V4.Addr[:], r.V4.Len), api.Run{N: hostBits(r), V: host}),
		Len:  r.V4.Len + hostBits(r),
	}
	if shared(r) {
		e.Set = anySet(r)
		e.Set.PSID = uint16(psid)
	}
	// The zeros are two runs, for together they may be more than one run holds.
	rest, gap := api.Run{N: endBits - e.End.Len}, api.Run{N: gapBits}
	e.Own = six(first6, bits, rest, gap, head(e.V4.Addr[:], bits4), api.Run{N: psidRoom, V: psid})
	return e
}

// head is the first n bits, at most 64, of an address.
func head(b []byte, n int) api.Run {
	v, _ := field.Get(b, 0, n)
	return api.Run{N: n, V: v}
}

// four is the IPv4 address of runs of bits, 0 behind them.
func four(l ...api.Run) api.Addr4 {
	var a api.Addr4
	b, _ := field.Cat(l...)
	copy(a[:], b)
	return a
}

// six is the IPv6 address of runs of bits, 0 behind them.
func six(l ...api.Run) api.Addr6 {
	var x api.Addr6
	b, _ := field.Cat(l...)
	copy(x[:], b)
	return x
}

package embed

import (
	"ferryman/addr"
	"ferryman/api"
)

// special are the prefixes whose addresses are not global.
var special = [14]api.Prefix4{
	{Addr: api.Addr4{0}, Len: 8},
	{Addr: api.Addr4{10}, Len: 8},
	{Addr: api.Addr4{100, 64}, Len: 10},
	{Addr: api.Addr4{127}, Len: 8},
	{Addr: api.Addr4{169, 254}, Len: 16},
	{Addr: api.Addr4{172, 16}, Len: 12},
	{Addr: api.Addr4{192, 0, 0}, Len: 24},
	{Addr: api.Addr4{192, 0, 2}, Len: 24},
	{Addr: api.Addr4{192, 168}, Len: 16},
	{Addr: api.Addr4{198, 18}, Len: 15},
	{Addr: api.Addr4{198, 51, 100}, Len: 24},
	{Addr: api.Addr4{203, 0, 113}, Len: 24},
	{Addr: api.Addr4{224}, Len: 4},
	{Addr: api.Addr4{240}, Len: 4},
}

// Known is the well-known prefix, 64:ff9b::/96.
func Known() api.Prefix6 {
	return api.Prefix6{Addr: api.Addr6{0x00, 0x64, 0xff, 0x9b}, Len: 96}
}

// Global tells whether an address is one of the whole Internet.
func Global(a api.Addr4) bool {
	for _, q := range special {
		if has, _ := addr.Has4(q, a); has {
			return false
		}
	}
	return true
}

// Pair is the IPv6 addresses in which a source and a destination stand.
func Pair(p api.Prefix6, src, dst api.Addr4) (api.Addr6, api.Addr6, api.Errno) {
	from, e := Put(p, src)
	if e != api.OK {
		return api.Addr6{}, api.Addr6{}, e
	}
	// Everybody routes the well-known prefix alike, so that addresses of one network alone have no place in it.
	if p == Known() && !(Global(src) && Global(dst)) {
		return api.Addr6{}, api.Addr6{}, api.ErrGlobal
	}
	to, _ := Put(p, dst)
	return from, to, api.OK
}

package addr

import (
	"strconv"
	"strings"

	"ferryman/api"
)

// Parse4 is the IPv4 address of a text, or where it is none.
func Parse4(s string) (api.Addr4, int, api.Errno) {
	var d dotted
	if at, ok := read(s, &d); !ok {
		return api.Addr4{}, at, api.ErrText
	}
	return d.addr(), 0, api.OK
}

// Parse6 is the IPv6 address of a text, or where it is none.
func Parse6(s string) (api.Addr6, int, api.Errno) {
	var g grouped
	if at, ok := read(s, &g); !ok {
		return api.Addr6{}, at, api.ErrText
	}
	return g.addr(), 0, api.OK
}

// Prefix4 is the prefix of a text, or where it is none.
func Prefix4(s string) (api.Prefix4, int, api.Errno) {
	var d dotted
	text := prefixed{address: &d, most: bits4}
	if at, ok := read(s, &text); !ok {
		return api.Prefix4{}, at, api.ErrText
	}
	p := api.Prefix4{Addr: d.addr(), Len: text.length.value}
	if Check4(p) != api.OK {
		return api.Prefix4{}, strings.IndexByte(s, '/'), api.ErrHost
	}
	return p, 0, api.OK
}

// Prefix6 is the prefix of a text, or where it is none.
func Prefix6(s string) (api.Prefix6, int, api.Errno) {
	var g grouped
	text := prefixed{address: &g, most: bits6}
	if at, ok := read(s, &text); !ok {
		return api.Prefix6{}, at, api.ErrText
	}
	p := api.Prefix6{Addr: g.addr(), Len: text.length.value}
	if Check6(p) != api.OK {
		return api.Prefix6{}, strings.IndexByte(s, '/'), api.ErrHost
	}
	return p, 0, api.OK
}

// Text4 is an IPv4 address's text.
func Text4(a api.Addr4) string {
	var parts []string
	for _, b := range a {
		parts = append(parts, strconv.Itoa(int(b)))
	}
	return strings.Join(parts, ".")
}

// Text6 is an IPv6 address's own text.
func Text6(a api.Addr6) string {
	groups := groupsOf(a)
	from, to := gap(groups[:])
	if to == 0 {
		return hexes(groups[:])
	}
	return hexes(groups[:from]) + "::" + hexes(groups[to:])
}

// Say4 is a prefix's text.
func Say4(p api.Prefix4) (string, api.Errno) {
	if e := Check4(p); e != api.OK {
		return "", e
	}
	return Text4(p.Addr) + "/" + strconv.Itoa(p.Len), api.OK
}

// Say6 is a prefix's text.
func Say6(p api.Prefix6) (string, api.Errno) {
	if e := Check6(p); e != api.OK {
		return "", e
	}
	return Text6(p.Addr) + "/" + strconv.Itoa(p.Len), api.OK
}

// groupsOf is an address as groups.
func groupsOf(a api.Addr6) [8]uint16 {
	var groups [8]uint16
	for i := range groups {
		groups[i] = uint16(a[2*i])<<8 | uint16(a[2*i+1])
	}
	return groups
}

// gap is where the longest row of two and more groups 0 begins and where it has ended, 0 and 0 if there is none.
func gap(groups []uint16) (from, to int) {
	start := 0
	for i, g := range groups {
		if g != 0 {
			start = i + 1
			continue
		}
		// A row that is only as long as an earlier one does not take its place.
		if long := i + 1 - start; long > 1 && long > to-from {
			from, to = start, i+1
		}
	}
	return from, to
}

// hexes is groups in hex digits with colons between.
func hexes(groups []uint16) string {
	var parts []string
	for _, g := range groups {
		parts = append(parts, strconv.FormatUint(uint64(g), 16))
	}
	return strings.Join(parts, ":")
}

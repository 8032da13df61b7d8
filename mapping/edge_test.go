package mapping_test

import (
	"math"
	"math/rand/v2"
	"testing"

	"ferryman/api"
	"ferryman/mapping"
)

// shapes are all lengths of rules that may be, with one Offset each.
func shapes(r *rand.Rand) []api.Rule {
	var out []api.Rule
	for len6 := range 65 {
		for len4 := range 33 {
			for ea := range 49 {
				if x := some(r, len6, len4, ea, r.IntN(1+min(15, max(0, 48-len4-ea)))); plainCheck(x) == api.OK {
					out = append(out, x)
				}
			}
		}
	}
	return out
}

// P10.1: Ports and Count, of all that may be.
func TestPortsAndCount(t *testing.T) {
	r := dice()
	seen := map[bool]int{}
	for _, len6 := range []int{0, 7, 16} {
		for len4 := range 33 {
			for ea := range 49 {
				for offset := range 16 {
					x := some(r, len6, len4, ea, offset)
					if plainCheck(x) != api.OK {
						continue
					}
					yes := ea > 32-len4
					seen[yes]++
					want := api.PortSet{}
					if yes {
						want = api.PortSet{Offset: offset, Len: ea + len4 - 32}
					}
					if s, ok, e := mapping.Ports(x); s != want || ok != yes || e != api.OK {
						t.Fatalf("Ports of %v: %v, %v, %v; want %v", x, s, ok, e, want)
					}
					if n, e := mapping.Count(x); n != most(ea)+1 || e != api.OK {
						t.Fatalf("Count of %v: %d, %v", x, n, e)
					}
				}
			}
		}
	}
	if len(seen) != 2 {
		t.Error("some answer was never asked for", seen)
	}
}

// P10.1: EA below the suffix, just at it and above it, told one by one.
func TestPortsNamed(t *testing.T) {
	for _, c := range []struct {
		len4, ea, offset int
		want             api.PortSet
		yes              bool
		count            uint64
	}{
		{24, 0, 6, api.PortSet{}, false, 1},
		{24, 7, 6, api.PortSet{}, false, 128},
		{24, 8, 6, api.PortSet{}, false, 256},
		{24, 9, 6, api.PortSet{Offset: 6, Len: 1}, true, 512},
		{24, 18, 6, api.PortSet{Offset: 6, Len: 10}, true, 1 << 18},
		{24, 9, 0, api.PortSet{Len: 1}, true, 512},
		{32, 0, 6, api.PortSet{}, false, 1},
		{32, 1, 15, api.PortSet{Offset: 15, Len: 1}, true, 2},
		{32, 16, 0, api.PortSet{Len: 16}, true, 65536},
		{31, 1, 3, api.PortSet{}, false, 2},
		{31, 2, 3, api.PortSet{Offset: 3, Len: 1}, true, 4},
		{0, 32, 6, api.PortSet{}, false, 1 << 32},
		{0, 33, 6, api.PortSet{Offset: 6, Len: 1}, true, 1 << 33},
		{0, 48, 0, api.PortSet{Len: 16}, true, 1 << 48},
	} {
		r := api.Rule{V4: api.Prefix4{Len: c.len4}, EA: c.ea, Offset: c.offset}
		if s, yes, e := mapping.Ports(r); s != c.want || yes != c.yes || e != api.OK {
			t.Errorf("%+v: %v, %v, %v", c, s, yes, e)
		}
		if n, e := mapping.Count(r); n != c.count || e != api.OK {
			t.Errorf("%+v: %d, %v", c, n, e)
		}
	}
}

// P10.2: Edge, of all lengths that may be.
func TestEdge(t *testing.T) {
	r := dice()
	for _, x := range shapes(r) {
		for _, ea := range eas(r, x.EA) {
			if got, e := mapping.Edge(x, ea); got != plainEdge(x, ea) || e != api.OK {
				t.Fatalf("%v, %x: %v, %v; want %v", x, ea, got, e, plainEdge(x, ea))
			}
		}
	}
}

// P10.2: edges told one by one: not shared, with and without EA bits; V4's Len of 0, 31 and 32; as many bits as may be.
func TestEdgeNamed(t *testing.T) {
	for _, c := range []struct {
		v6, v4     string
		ea, offset int
		bits       uint64
		want4      string
		set        api.PortSet
		end, own   string
	}{
		{"2001:db8::/40", "192.0.2.0/24", 4, 6, 5, "192.0.2.80/28", api.PortSet{}, "2001:db8:50::/44", "2001:db8:50::c000:250:0"},
		{"2001:db8::/40", "192.0.2.0/24", 8, 6, 0xff, "192.0.2.255/32", api.PortSet{}, "2001:db8:ff::/48", "2001:db8:ff::c000:2ff:0"},
		{"2001:db8::/40", "192.0.2.0/24", 0, 6, 0, "192.0.2.0/24", api.PortSet{}, "2001:db8::/40", "2001:db8::c000:200:0"},
		{"2001:db8::/40", "192.0.2.1/32", 0, 6, 0, "192.0.2.1/32", api.PortSet{}, "2001:db8::/40", "2001:db8::c000:201:0"},
		{"2001:db8::/40", "192.0.2.1/32", 8, 6, 0x9a, "192.0.2.1/32", api.PortSet{Offset: 6, Len: 8, PSID: 0x9a}, "2001:db8:9a::/48", "2001:db8:9a::c000:201:9a"},
		{"2001:db8::/48", "192.0.2.1/32", 16, 0, 0xfffe, "192.0.2.1/32", api.PortSet{Len: 16, PSID: 0xfffe}, "2001:db8:0:fffe::/64", "2001:db8:0:fffe:0:c000:201:fffe"},
		{"2001:db8::/40", "192.0.2.2/31", 9, 4, 0x1ab, "192.0.2.3/32", api.PortSet{Offset: 4, Len: 8, PSID: 0xab}, "2001:db8:d5:8000::/49", "2001:db8:d5:8000:0:c000:203:ab"},
		{"2001::/16", "0.0.0.0/0", 48, 0, 0xc0000212fffe, "192.0.2.18/32", api.PortSet{Len: 16, PSID: 0xfffe}, "2001:c000:212:fffe::/64", "2001:c000:212:fffe:0:c000:212:fffe"},
		{"::/0", "0.0.0.0/0", 0, 15, 0, "0.0.0.0/0", api.PortSet{}, "::/0", "::"},
		{"::/0", "192.0.2.0/24", 0, 15, 0, "192.0.2.0/24", api.PortSet{}, "::/0", "::c000:200:0"},
		{"::/0", "192.0.2.1/32", 1, 15, 1, "192.0.2.1/32", api.PortSet{Offset: 15, Len: 1, PSID: 1}, "8000::/1", "8000::c000:201:1"},
		{"2001:db8:1:2::/64", "10.0.0.0/8", 0, 0, 0, "10.0.0.0/8", api.PortSet{}, "2001:db8:1:2::/64", "2001:db8:1:2:0:a00:0:0"},
	} {
		r := api.Rule{V6: prefix6(t, c.v6), V4: prefix4(t, c.v4), EA: c.ea, Offset: c.offset}
		want := api.Edge{V4: prefix4(t, c.want4), Set: c.set, End: prefix6(t, c.end), Own: ip6(t, c.own)}
		if got, e := mapping.Edge(r, c.bits); got != want || e != api.OK {
			t.Errorf("%+v: %v, %v; want %v", c, got, e, want)
		}
	}
}

// P10.2: ErrEA: just below 2^EA, at it, and above.
func TestEdgeEA(t *testing.T) {
	r := dice()
	for ea := range 49 {
		for _, len4 := range []int{0, 8, 24, 32} {
			x := some(r, 64-ea, len4, ea, 0)
			if plainCheck(x) != api.OK {
				continue
			}
			last := most(ea)
			if got, e := mapping.Edge(x, last); got != plainEdge(x, last) || e != api.OK {
				t.Errorf("EA %d, %x: %v, %v", ea, last, got, e)
			}
			for _, bits := range []uint64{last + 1, last + 2, 2*last + 1 + 1<<ea, 1 << 48, 1 << 63, math.MaxUint64 - last, math.MaxUint64} {
				if bits <= last {
					continue
				}
				if got, e := mapping.Edge(x, bits); got != (api.Edge{}) || e != api.ErrEA {
					t.Errorf("EA %d, %x: %v, %v", ea, bits, got, e)
				}
			}
		}
	}
}

// P10.3: Bits, of addresses that are V6's and of such as are not by one bit.
func TestBits(t *testing.T) {
	r := dice()
	for range 2000 {
		x := mayBe(r)
		first := text6(x.V6.Addr)[:x.V6.Len]
		in := addr6(first + text6(some6(r))[x.V6.Len:])
		for at := range 128 {
			y := flip6(in, at)
			want, wantE := value(text6(y)[x.V6.Len:x.V6.Len+x.EA]), api.OK
			if at < x.V6.Len {
				want, wantE = 0, api.ErrOut
			}
			if n, e := mapping.Bits(x, y); n != want || e != wantE {
				t.Fatalf("%v, %v: %x, %v; want %x, %v", x, y, n, e, want, wantE)
			}
		}
	}
}

// P10.3: Of and Map, of each port of shared rules of all Offsets, and of many ports of such as are not shared.
func TestEveryPort(t *testing.T) {
	r := dice()
	for offset := range 16 {
		for i, x := range []api.Rule{
			some(r, 40, 24, 9, offset), some(r, 40, 24, 24-offset, offset), some(r, 48, 32, 16-offset, offset),
			some(r, 40, 24, 8, offset), some(r, 40, 24, 7, offset), some(r, 40, 32, 0, offset),
		} {
			a := addr4(text4(x.V4.Addr)[:x.V4.Len] + text4(some4(r))[x.V4.Len:])
			step := 1
			if i >= 3 {
				step = 37
			}
			for port := 0; port < 1<<16; port += step {
				holdOf(t, x, a, uint16(port))
			}
		}
	}
}

// holdOf asks Of, and of some ports Map, and tells what they are to.
func holdOf(t *testing.T, x api.Rule, a api.Addr4, port uint16) api.Errno {
	t.Helper()
	want, wantE := plainOf(x, a, port)
	if n, e := mapping.Of(x, a, port); n != want || e != wantE {
		t.Fatalf("Of %v, %v, %d: %x, %v; want %x, %v", x, a, port, n, e, want, wantE)
	}
	if port%64 == 9 {
		holdMap(t, x, a, port)
	}
	return wantE
}

func holdMap(t *testing.T, x api.Rule, a api.Addr4, port uint16) {
	t.Helper()
	var own api.Addr6
	ea, wantE := plainOf(x, a, port)
	if wantE == api.OK {
		own = plainEdge(x, ea).Own
	}
	if y, e := mapping.Map(x, a, port); y != own || e != wantE {
		t.Fatalf("Map of %v, %v, %d: %v, %v; want %v, %v", x, a, port, y, e, own, wantE)
	}
}

// P10.3: Of and Map, of addresses that are V4's and of such as are not by one bit: ErrOut ahead of ErrPort.
func TestOfAddresses(t *testing.T) {
	r := dice()
	seen := map[api.Errno]int{}
	for range 2000 {
		x := mayBe(r)
		in := addr4(text4(x.V4.Addr)[:x.V4.Len] + text4(some4(r))[x.V4.Len:])
		for _, port := range []uint16{0, 80, 9, 1 << 15, 65535, uint16(r.Uint32())} {
			for at := range 32 {
				a := flip4(in, at)
				e := holdOf(t, x, a, port)
				holdMap(t, x, a, port)
				if (e == api.ErrOut) != (at < x.V4.Len) {
					t.Fatalf("the test's own Of of %v, %v tells %v", x, a, e)
				}
				seen[e]++
			}
		}
	}
	if len(seen) != 3 {
		t.Error("some answer was never asked for", seen)
	}
}

// P10.3: a port counts for shared rules alone; with Offset 0 none is nobody's.
func TestPortCounts(t *testing.T) {
	r := example(t)
	a := api.Addr4{192, 0, 2, 18}
	for _, c := range []struct {
		ea, offset int
		port       uint16
		want       uint64
		e          api.Errno
	}{
		{16, 6, 1023, 0, api.ErrPort}, {16, 6, 1024, 0x1200, api.OK}, {16, 6, 65535, 0x12ff, api.OK}, {16, 6, 0, 0, api.ErrPort},
		{16, 0, 0, 0x1200, api.OK}, {16, 0, 1023, 0x1203, api.OK}, {16, 0, 65535, 0x12ff, api.OK},
		{16, 1, 32767, 0, api.ErrPort}, {16, 1, 32768, 0x1200, api.OK},
		{9, 15, 1, 0, api.ErrPort}, {9, 15, 2, 0x24, api.OK}, {9, 15, 3, 0x25, api.OK},
		{8, 6, 0, 0x12, api.OK}, {8, 6, 1023, 0x12, api.OK}, {8, 15, 1, 0x12, api.OK}, {4, 6, 80, 1, api.OK}, {0, 6, 80, 0, api.OK}, {0, 15, 0, 0, api.OK},
	} {
		r.EA, r.Offset = c.ea, c.offset
		if n, e := mapping.Of(r, a, c.port); n != c.want || e != c.e {
			t.Errorf("%+v: %x, %v", c, n, e)
		}
		if n, e := mapping.Of(r, api.Addr4{192, 0, 3, 18}, c.port); n != 0 || e != api.ErrOut {
			t.Errorf("%+v, another address: %x, %v", c, n, e)
		}
	}
}

package mapping_test

import (
	"math/rand/v2"
	"testing"

	"ferryman/addr"
	"ferryman/api"
	"ferryman/mapping"
	"ferryman/portset"
)

// holdOwns asks Owns of an edge made by hand.
func holdOwns(t *testing.T, x api.Edge, a api.Addr4, port uint16, want bool, wantE api.Errno) {
	t.Helper()
	if yes, e := mapping.Owns(x, a, port); yes != want || e != wantE {
		t.Errorf("%v, %v, %d: %v, %v; want %v, %v", x, a, port, yes, e, want, wantE)
	}
}

// P10.4: Owns, its errors: V4's ahead of Set's, both ahead of what it is asked for.
func TestOwnsWrong(t *testing.T) {
	good, in, out := prefix4(t, "192.0.2.0/24"), api.Addr4{192, 0, 2, 1}, api.Addr4{192, 0, 3, 1}
	set := api.PortSet{Offset: 6, Len: 8, PSID: 0x34}
	var bad4 []api.Prefix4
	for _, n := range append([]int{-1, 33, 23, 22}, far...) {
		bad4 = append(bad4, api.Prefix4{Addr: api.Addr4{192, 0, 3}, Len: n})
	}
	bad4 = append(bad4, api.Prefix4{Addr: in, Len: 31}, api.Prefix4{Addr: in, Len: 0}, api.Prefix4{Len: 33})
	badSet := []api.PortSet{{Offset: -1, Len: 8}, {Offset: 16}, {Offset: 6, Len: 11}, {Offset: 6, Len: -1}, {Offset: 6, Len: 8, PSID: 256}, {PSID: 1}, {Offset: -1}, {Len: 17}}
	for _, n := range far {
		badSet = append(badSet, api.PortSet{Offset: n}, api.PortSet{Len: n}, api.PortSet{Offset: n, Len: -n})
	}
	for _, a := range []api.Addr4{in, out, {}} {
		for _, port := range []uint16{0, 80, 1232, 1236, 65535} {
			for _, p := range bad4 {
				holdOwns(t, api.Edge{V4: p, Set: set}, a, port, false, api.ErrPrefix)
				holdOwns(t, api.Edge{V4: p}, a, port, false, api.ErrPrefix)
				holdOwns(t, api.Edge{V4: p, Set: badSet[0]}, a, port, false, api.ErrPrefix)
			}
			for _, s := range badSet {
				holdOwns(t, api.Edge{V4: good, Set: s}, a, port, false, api.ErrSet)
				holdOwns(t, api.Edge{V4: bad4[0], Set: s}, a, port, false, api.ErrPrefix)
			}
		}
	}
}

// P10.4: Owns, told one by one; End and Own play no part.
func TestOwnsNamed(t *testing.T) {
	in, out := api.Addr4{192, 0, 2, 18}, api.Addr4{192, 0, 2, 19}
	one, many := prefix4(t, "192.0.2.18/32"), prefix4(t, "192.0.2.0/24")
	for _, c := range []struct {
		v4      api.Prefix4
		set     api.PortSet
		a       api.Addr4
		port    uint16
		address bool
		ports   bool
	}{
		{one, api.PortSet{Offset: 6, Len: 8, PSID: 0x34}, in, 1232, true, true},
		{one, api.PortSet{Offset: 6, Len: 8, PSID: 0x34}, in, 1236, true, false},
		{one, api.PortSet{Offset: 6, Len: 8, PSID: 0x34}, in, 208, true, false},
		{one, api.PortSet{Offset: 6, Len: 8, PSID: 0x34}, out, 1232, false, true},
		{one, api.PortSet{Offset: 6, Len: 8, PSID: 0x34}, out, 1236, false, false},
		{many, api.PortSet{Offset: 6, Len: 8, PSID: 0x34}, out, 1232, true, true},
		{one, api.PortSet{Len: 1, PSID: 1}, in, 32768, true, true},
		{one, api.PortSet{Len: 1, PSID: 1}, in, 32767, true, false},
		{one, api.PortSet{}, in, 0, true, true},
		{one, api.PortSet{}, in, 65535, true, true},
		{one, api.PortSet{}, out, 80, false, true},
		{one, api.PortSet{Offset: 6}, in, 80, true, true},
		{one, api.PortSet{Offset: 15}, in, 0, true, true},
		{one, api.PortSet{Offset: 15}, out, 0, false, true},
		{many, api.PortSet{Offset: 1}, out, 32767, true, true},
		{api.Prefix4{}, api.PortSet{}, in, 1, true, true},
	} {
		for _, x := range []api.Edge{{V4: c.v4, Set: c.set}, {V4: c.v4, Set: c.set, End: api.Prefix6{Len: -9}, Own: api.Addr6{1, 2, 3}}} {
			holdOwns(t, x, c.a, c.port, c.address && c.ports, api.OK)
		}
	}
}

// P10.4: Owns, of random edges made by hand.
func TestOwnsRandom(t *testing.T) {
	r := dice()
	seen := map[api.Errno]int{}
	for range 200000 {
		x := api.Edge{V4: api.Prefix4{Addr: some4(r), Len: r.IntN(35) - 1}, Set: api.PortSet{Offset: r.IntN(18) - 1, Len: r.IntN(19) - 1, PSID: uint16(r.Uint32() >> r.IntN(32))}}
		if cut, e := addr.Cut4(x.V4.Addr, x.V4.Len); e == api.OK && r.IntN(4) > 0 {
			x.V4 = cut
		}
		a, port := some4(r), uint16(r.Uint32())
		if r.IntN(2) == 0 {
			a = flip4(x.V4.Addr, r.IntN(32))
		}
		if n, e := portset.Count(x.Set); e == api.OK && r.IntN(2) == 0 {
			port, _ = portset.At(x.Set, r.IntN(n))
		}
		here, e := addr.Has4(x.V4, a)
		there, e2 := portset.Has(x.Set, port)
		if e == api.OK {
			e = e2
		}
		want := e == api.OK && here && (there || x.Set.Len == 0)
		seen[e]++
		if want {
			seen[-1]++
		}
		holdOwns(t, x, a, port, want, e)
	}
	if len(seen) != 4 {
		t.Error("some answer was never asked for", seen)
	}
}

// P10.4: Comes, of the MAP address, and of addresses that are right but for one bit.
func TestComesBits(t *testing.T) {
	r := dice()
	seen := map[api.Errno]int{}
	for range 2000 {
		x := mayBe(r)
		a := addr4(text4(x.V4.Addr)[:x.V4.Len] + text4(some4(r))[x.V4.Len:])
		port := uint16(r.Uint32() >> r.IntN(32))
		ea, e := plainOf(x, a, port)
		seen[e]++
		own := plainEdge(x, ea).Own
		if yes, got := mapping.Comes(x, own, a, port); yes != (e == api.OK) || got != api.OK {
			t.Fatalf("%v, %v, %v, %d: %v, %v; Of tells %v", x, own, a, port, yes, got, e)
		}
		for at := range 128 {
			if yes, e := mapping.Comes(x, flip6(own, at), a, port); yes || e != api.OK {
				t.Fatalf("%v, %v but for bit %d, %v, %d: %v, %v", x, own, at, a, port, yes, e)
			}
		}
		if x.V4.Len > 0 {
			b := flip4(a, r.IntN(x.V4.Len))
			for _, y := range []api.Addr6{own, {}} {
				if yes, e := mapping.Comes(x, y, b, port); yes || e != api.OK {
					t.Fatalf("%v, %v, %v, %d: %v, %v", x, y, b, port, yes, e)
				}
			}
		}
	}
	if len(seen) != 2 {
		t.Error("some answer was never asked for", seen)
	}
}

// P10.4: where Map tells an error with a zero address, :: comes from nobody.
func TestComesNobody(t *testing.T) {
	r := example(t)
	for _, c := range []struct {
		a    api.Addr4
		port uint16
	}{{api.Addr4{192, 0, 2, 18}, 80}, {api.Addr4{192, 0, 3, 18}, 1232}, {api.Addr4{192, 0, 3, 18}, 80}, {api.Addr4{}, 0}} {
		for _, x := range []api.Addr6{{}, ip6(t, "2001:db8:12:3400:0:c000:212:34"), ip6(t, "2001:db8::c000:200:0")} {
			if yes, e := mapping.Comes(r, x, c.a, c.port); yes || e != api.OK {
				t.Errorf("%v, %v: %v, %v", c, x, yes, e)
			}
		}
	}
	// The rule of all addresses without EA bits has :: as its one MAP address.
	if yes, e := mapping.Comes(api.Rule{}, api.Addr6{}, api.Addr4{192, 0, 2, 18}, 80); !yes || e != api.OK {
		t.Errorf("%v, %v", yes, e)
	}
}

// P10.4: another edge's MAP address, with an address or port of this one.
func TestComesOthers(t *testing.T) {
	r := dice()
	for range 3000 {
		x := mayBe(r)
		mine, others := r.Uint64()&most(x.EA), r.Uint64()&most(x.EA)
		own, other := plainEdge(x, mine), plainEdge(x, others)
		a, port := someOf(r, own)
		for _, c := range []struct {
			from api.Edge
			want bool
		}{{own, true}, {other, mine == others}} {
			if yes, e := mapping.Comes(x, c.from.Own, a, port); yes != c.want || e != api.OK {
				t.Fatalf("%v: %v, %d by %v: %v, %v", x, a, port, c.from.Own, yes, e)
			}
		}
	}
}

// someOf is an address and a port of an edge.
func someOf(r *rand.Rand, x api.Edge) (api.Addr4, uint16) {
	a := addr4(text4(x.V4.Addr)[:x.V4.Len] + text4(some4(r))[x.V4.Len:])
	if x.Set.Len == 0 {
		return a, uint16(r.Uint32())
	}
	n, _ := portset.Count(x.Set)
	port, _ := portset.At(x.Set, r.IntN(n))
	return a, port
}

package mapping_test

import (
	"math/rand/v2"
	"testing"

	"ferryman/addr"
	"ferryman/api"
	"ferryman/mapping"
)

// small are rules with few edges and addresses: not shared, with a rest behind the EA bits and without; shared, with ports that are nobody's and without; of one edge.
func small(t *testing.T) []api.Rule {
	t.Helper()
	v6 := prefix6(t, "2001:db8:a000::/35")
	one, two, eight := prefix4(t, "192.0.2.77/32"), prefix4(t, "192.0.2.76/31"), prefix4(t, "192.0.2.72/29")
	return []api.Rule{
		{V6: v6, V4: eight, EA: 0, Offset: 6}, {V6: v6, V4: eight, EA: 2, Offset: 6}, {V6: v6, V4: eight, EA: 3, Offset: 6},
		{V6: v6, V4: eight, EA: 4, Offset: 0}, {V6: v6, V4: eight, EA: 5, Offset: 6, FMR: true}, {V6: v6, V4: eight, EA: 4, Offset: 15},
		{V6: v6, V4: two, EA: 1, Offset: 4}, {V6: v6, V4: two, EA: 5, Offset: 12}, {V6: v6, V4: two, EA: 4, Offset: 0},
		{V6: v6, V4: one, EA: 0, Offset: 3}, {V6: v6, V4: one, EA: 1, Offset: 15}, {V6: v6, V4: one, EA: 5, Offset: 11}, {V6: v6, V4: one, EA: 6, Offset: 0},
	}
}

// edges are all edges of a rule.
func edges(t *testing.T, r api.Rule) []api.Edge {
	t.Helper()
	n, e := mapping.Count(r)
	if e != api.OK || n > 64 {
		t.Fatal(r, n, e)
	}
	var out []api.Edge
	for ea := range n {
		x, e := mapping.Edge(r, ea)
		if e != api.OK {
			t.Fatal(r, ea, e)
		}
		out = append(out, x)
	}
	return out
}

// addresses are all that a rule's V4 has.
func addresses(r api.Rule) []api.Addr4 {
	var out []api.Addr4
	p := 32 - r.V4.Len
	for i := range most(p) + 1 {
		out = append(out, addr4(text4(r.V4.Addr)[:r.V4.Len]+padded(i, p)))
	}
	return out
}

// P10.5 to P10.7: each address and port is that edge's, and no other one's, whose EA bits Of tells; what is nobody's is no edge's.
func TestAll(t *testing.T) {
	r := dice()
	for _, x := range small(t) {
		all := edges(t, x)
		for i, a := range addresses(x) {
			step := 1
			if i > 0 { // every port of the first address is enough to see each PSID
				step = 7
			}
			for port := r.IntN(step); port < 1<<16; port += step {
				holdOwner(t, x, all, a, uint16(port))
			}
		}
	}
}

// holdOwner asks all edges whether they own an address and port.
func holdOwner(t *testing.T, x api.Rule, all []api.Edge, a api.Addr4, port uint16) {
	t.Helper()
	whose, e := mapping.Of(x, a, port)
	if e != api.OK && e != api.ErrPort {
		t.Fatalf("%v, %v, %d: %v", x, a, port, e)
	}
	for ea, edge := range all {
		want := e == api.OK && uint64(ea) == whose
		if yes, err := mapping.Owns(edge, a, port); yes != want || err != api.OK {
			t.Fatalf("%v: edge %x owns %v, %d: %v, %v; Of tells %x, %v", x, ea, a, port, yes, err, whose, e)
		}
	}
}

// P10.7: no edge of a rule owns an address that V4 has not.
func TestNoneOutside(t *testing.T) {
	r := dice()
	for _, x := range small(t) {
		for _, edge := range edges(t, x) {
			for at := range x.V4.Len {
				a, port := someOf(r, edge)
				a = flip4(a, at)
				if yes, e := mapping.Owns(edge, a, port); yes || e != api.OK {
					t.Fatalf("%v: %v owns %v, %d: %v", x, edge, a, port, e)
				}
				if _, e := mapping.Of(x, a, port); e != api.ErrOut {
					t.Fatalf("%v: Of %v: %v", x, a, e)
				}
			}
		}
	}
}

// P10.6: Ends of unlike EA bits, all pairs of small rules and random ones of others.
func TestEndsApart(t *testing.T) {
	for _, x := range small(t) {
		all := edges(t, x)
		for i, a := range all {
			for j, b := range all {
				holdApart(t, a, b, i == j)
			}
		}
	}
	r := dice()
	for range 5000 {
		x := mayBe(r)
		if x.EA == 0 {
			continue
		}
		ea := r.Uint64() & most(x.EA)
		a, _ := mapping.Edge(x, ea)
		b, _ := mapping.Edge(x, ea^1<<r.IntN(x.EA))
		holdApart(t, a, b, false)
	}
}

// holdApart: two prefixes have an address in common just when one covers the other.
func holdApart(t *testing.T, a, b api.Edge, same bool) {
	t.Helper()
	if meet, e := addr.Cover6(a.End, b.End); meet != same || e != api.OK {
		t.Fatalf("%v covers %v: %v, %v", a.End, b.End, meet, e)
	}
	if (a.Own == b.Own) != same || (a == b) != same {
		t.Fatalf("%v and %v", a, b)
	}
}

// P10.6: edges of EA bits that are unlike by one bit own nothing both.
func TestOwnApart(t *testing.T) {
	r := dice()
	for range 20000 {
		x := mayBe(r)
		ea := r.Uint64() & most(x.EA)
		mine, _ := mapping.Edge(x, ea)
		a, port := someOf(r, mine)
		if yes, e := mapping.Owns(mine, a, port); !yes || e != api.OK {
			t.Fatalf("%v: %v owns %v, %d: %v, %v", x, mine, a, port, yes, e)
		}
		for at := range x.EA {
			other, _ := mapping.Edge(x, ea^1<<at)
			if yes, e := mapping.Owns(other, a, port); yes || e != api.OK {
				t.Fatalf("%v: %v and %v own %v, %d: %v", x, mine, other, a, port, e)
			}
		}
	}
}

// P10.5: Bits of an edge's Own, of any address of its End, and Of all that it owns, are its EA bits; what an edge is made of may be.
func TestThereAndBack(t *testing.T) {
	r := dice()
	for range 20000 {
		x := mayBe(r)
		for _, ea := range eas(r, x.EA) {
			edge, _ := mapping.Edge(x, ea)
			holdBack(t, r, x, edge, ea)
		}
	}
}

func holdBack(t *testing.T, r *rand.Rand, x api.Rule, edge api.Edge, ea uint64) {
	t.Helper()
	if addr.Check4(edge.V4) != api.OK || addr.Check6(edge.End) != api.OK {
		t.Fatalf("%v, %x: %v", x, ea, edge)
	}
	if in, _ := addr.Has6(edge.End, edge.Own); !in {
		t.Fatalf("%v, %x: End has not Own: %v", x, ea, edge)
	}
	inside := addr6(text6(edge.End.Addr)[:edge.End.Len] + text6(some6(r))[edge.End.Len:])
	for _, y := range []api.Addr6{edge.Own, edge.End.Addr, inside} {
		if n, e := mapping.Bits(x, y); n != ea || e != api.OK {
			t.Fatalf("%v: Bits of %v: %x, %v; want %x", x, y, n, e, ea)
		}
	}
	for range 3 {
		a, port := someOf(r, edge)
		if yes, e := mapping.Owns(edge, a, port); !yes || e != api.OK {
			t.Fatalf("%v: %v owns %v, %d: %v, %v", x, edge, a, port, yes, e)
		}
		if n, e := mapping.Of(x, a, port); n != ea || e != api.OK {
			t.Fatalf("%v: Of %v, %d: %x, %v; want %x", x, a, port, n, e, ea)
		}
		if y, e := mapping.Map(x, a, port); y != edge.Own || e != api.OK {
			t.Fatalf("%v: Map of %v, %d: %v, %v; want %v", x, a, port, y, e, edge.Own)
		}
	}
}

// Random rules, EA bits, addresses and ports, many of which may not be.
func TestRandom(t *testing.T) {
	r := dice()
	seen := map[api.Errno]int{}
	for range 100000 {
		x := wild(r)
		if e := plainCheck(x); e != api.OK {
			seen[e]++
			holdWrong(t, x, e)
			continue
		}
		a, port, ea := near4(r, x), uint16(r.Uint32()>>r.IntN(32)), r.Uint64()>>r.IntN(64)
		seen[holdOf(t, x, a, port)]++
		holdMap(t, x, a, port)
		want, wantE := api.Edge{}, api.ErrEA
		if ea <= most(x.EA) {
			want, wantE = plainEdge(x, ea), api.OK
		}
		if got, e := mapping.Edge(x, ea); got != want || e != wantE {
			t.Fatalf("%v, %x: %v, %v; want %v, %v", x, ea, got, e, want, wantE)
		}
		seen[wantE]++
	}
	if len(seen) != 6 {
		t.Error("some answer was never asked for", seen)
	}
}

// wild is a rule that often may not be, by one thing or more.
func wild(r *rand.Rand) api.Rule {
	if r.IntN(2) == 0 {
		return some(r, r.IntN(133)-2, r.IntN(37)-2, r.IntN(54)-2, r.IntN(20)-2)
	}
	x := mayBe(r)
	switch r.IntN(8) {
	case 0:
		*number(&x, r.IntN(4)) += 1 - 2*r.IntN(2)
	case 1:
		*number(&x, r.IntN(4)) = far[r.IntN(len(far))]
	case 2:
		flip(x.V6.Addr[:], r.IntN(128))
	case 3:
		flip(x.V4.Addr[:], r.IntN(32))
	}
	return x
}

// near4 is an address that V4 has, or has not by a bit, or any.
func near4(r *rand.Rand, x api.Rule) api.Addr4 {
	a := addr4(text4(x.V4.Addr)[:x.V4.Len] + text4(some4(r))[x.V4.Len:])
	switch r.IntN(4) {
	case 0:
		return flip4(a, r.IntN(32))
	case 1:
		return some4(r)
	}
	return a
}

// Rules 4 and 5: whatever is done to an answer, and whatever was asked between, the same call answers the same.
func TestAgain(t *testing.T) {
	r := dice()
	for range 2000 {
		x, ea := mayBe(r), uint64(0)
		was := x
		edge, e1 := mapping.Edge(x, ea)
		a, port := someOf(r, edge)
		own, e2 := mapping.Map(x, a, port)
		wasEdge, wasOwn := edge, own
		flip(edge.V4.Addr[:], r.IntN(32))
		flip(edge.End.Addr[:], r.IntN(128))
		flip(edge.Own[:], r.IntN(128))
		flip(own[:], r.IntN(128))
		y := wild(r)
		mapping.Edge(y, 1)
		mapping.Map(y, some4(r), port)
		mapping.Bits(y, some6(r))
		if again, e := mapping.Edge(x, ea); again != wasEdge || e != e1 {
			t.Fatalf("Edge: %v, %v; was %v, %v", again, e, wasEdge, e1)
		}
		if again, e := mapping.Map(x, a, port); again != wasOwn || e != e2 {
			t.Fatalf("Map: %v, %v; was %v, %v", again, e, wasOwn, e2)
		}
		if x != was {
			t.Fatalf("a rule changed from %v to %v", was, x)
		}
	}
}

// Rule 8: nothing here names FMR.
func TestFMR(t *testing.T) {
	r := dice()
	for range 2000 {
		x := wild(r)
		y := x
		y.FMR = !x.FMR
		if mapping.Check(x) != mapping.Check(y) {
			t.Fatalf("Check of %v: %v, %v", x, mapping.Check(x), mapping.Check(y))
		}
		a, _ := mapping.Edge(x, 0)
		if b, _ := mapping.Edge(y, 0); a != b {
			t.Fatalf("Edge of %v: %v, %v", x, a, b)
		}
		at := near4(r, mayBe(r))
		own, e := mapping.Map(x, at, 5000)
		if other, f := mapping.Map(y, at, 5000); own != other || e != f {
			t.Fatalf("Map of %v, %v: %v, %v; %v, %v", x, at, own, e, other, f)
		}
	}
}

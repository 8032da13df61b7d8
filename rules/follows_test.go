package rules_test

import (
	"testing"

	"ferryman/addr"
	"ferryman/api"
	"ferryman/mapping"
	"ferryman/rules"
)

// P11.6: there and back, of random rule sets of all modes and of such with 64 rules.
func TestThereAndBack(t *testing.T) {
	r := dice()
	seen := map[api.Mode]int{}
	for range 2000 {
		s := someSet(r)
		seen[s.Mode]++
		holdBack(t, s)
		text, _, _ := rules.Print(s)
		if holdParse(t, text) != api.OK {
			t.Fatalf("%v: %q", s, text)
		}
	}
	if len(seen) != 3 {
		t.Error(seen)
	}
	for range 50 {
		s := api.RuleSet{Mode: api.MapE, Rules: someRules(r, 64)}
		for _, e := plainCheck(s); e != api.OK; _, e = plainCheck(s) {
			s.Relay = some6(r)
		}
		holdBack(t, s)
	}
}

// P11.7: of a rule set that may be no two rules have an address, of either kind.
func TestOneHas(t *testing.T) {
	r := dice()
	for range 20000 {
		s := someSet(r)
		a, x := near(r, s)
		fours, sixes := 0, 0
		for _, y := range s.Rules {
			if yes, _ := addr.Has4(y.V4, a); yes {
				fours++
			}
			if yes, _ := addr.Has6(y.V6, x); yes {
				sixes++
			}
		}
		if fours > 1 || sixes > 1 {
			t.Fatalf("%v: %d have %v, %d have %v", s, fours, a, sixes, x)
		}
		if _, ok := rules.Best4(s, a); ok != (fours == 1) {
			t.Fatalf("%v: Best4 of %v: %v", s, a, ok)
		}
		if _, ok := rules.Best6(s, x); ok != (sixes == 1) {
			t.Fatalf("%v: Best6 of %v: %v", s, x, ok)
		}
	}
}

// small has few edges and addresses: of rules that share addresses and that don't, side by side.
func small(t *testing.T) api.RuleSet {
	t.Helper()
	return api.RuleSet{Mode: api.MapT, Prefix: prefix6(t, "64:ff9b::/96"), Rules: []api.Rule{
		rule(t, "2001:db8:4000::/34", "192.0.2.8/29", 5, 6), rule(t, "2001:db8::/35", "192.0.2.16/30", 1, 6), rule(t, "2001:db8:2000::/35", "192.0.2.6/31", 1, 0),
		rule(t, "2001:db8:8000::/33", "192.0.2.5/32", 4, 11), rule(t, "2001:db9::/60", "192.0.2.4/32", 4, 0), rule(t, "2001:db9:0:10::/60", "192.0.2.21/32", 0, 4),
	}}
}

// P11.7: the edge of Own has the address and port, and no edge with another MAP address, of all edges of all rules.
func TestOneOwner(t *testing.T) {
	s := small(t)
	wantCheck(t, "small", s, 0, api.OK)
	var all []api.Edge
	for _, r := range s.Rules {
		n, _ := mapping.Count(r)
		for ea := range n {
			e, err := mapping.Edge(r, ea)
			if err != api.OK {
				t.Fatal(r, ea, err)
			}
			all = append(all, e)
		}
	}
	seen := map[api.Errno]int{}
	for last := range 32 {
		for port := last; port < 1<<16; port += 61 {
			seen[holdOwner(t, s, all, api.Addr4{192, 0, 2, byte(last)}, uint16(port))]++
		}
	}
	if len(seen) != 3 {
		t.Error(seen)
	}
}

// holdOwner asks all edges of a rule set whether they own an address and port.
func holdOwner(t *testing.T, s api.RuleSet, all []api.Edge, a api.Addr4, port uint16) api.Errno {
	t.Helper()
	x, i, e := rules.Own(s, a, port)
	owners := 0
	for _, edge := range all {
		yes, err := mapping.Owns(edge, a, port)
		if err != api.OK || yes != (e == api.OK && edge.Own == x) {
			t.Fatalf("%v owns %v, %d: %v, %d; Own tells %v, %d, %d", edge, a, port, yes, err, x, i, e)
		}
		if yes {
			owners++
		}
	}
	if (owners == 1) != (e == api.OK) {
		t.Fatalf("%v, %d: %d owners; Own tells %d", a, port, owners, e)
	}
	if e != api.OK {
		return e
	}
	if j, ok := rules.Best6(s, x); j != i || !ok {
		t.Fatalf("%v, %d: Best6 of Own is %d, %v; want %d", a, port, j, ok, i)
	}
	return e
}

// P11.7: the same of random rule sets, with the edges that are unlike Own's by one bit, and one of each other rule.
func TestOneOwnerOfMany(t *testing.T) {
	r := dice()
	owned := 0
	for range 10000 {
		s := someSet(r)
		a, _ := near(r, s)
		port := uint16(r.Uint32())
		x, i, e := rules.Own(s, a, port)
		if e != api.OK {
			continue
		}
		owned++
		ea, _ := mapping.Bits(s.Rules[i], x)
		mine, _ := mapping.Edge(s.Rules[i], ea)
		if yes, _ := mapping.Owns(mine, a, port); !yes || mine.Own != x {
			t.Fatalf("%v: %v, %d: Own %v, %d of edge %v", s, a, port, x, i, mine)
		}
		for at := range s.Rules[i].EA {
			other, _ := mapping.Edge(s.Rules[i], ea^1<<at)
			if yes, _ := mapping.Owns(other, a, port); yes {
				t.Fatalf("%v: %v, %d is %v's, too", s, a, port, other)
			}
		}
		for j, y := range s.Rules {
			other, _ := mapping.Edge(y, ea&(1<<y.EA-1))
			if yes, _ := mapping.Owns(other, a, port); yes && j != i {
				t.Fatalf("%v: %v, %d is %v's, too", s, a, port, other)
			}
		}
	}
	if owned < 1000 {
		t.Error(owned)
	}
}

// Rules 4 and 5: answers share nothing with each other, and nothing is kept between calls.
func TestAgain(t *testing.T) {
	r := dice()
	for range 1000 {
		s := someSet(r)
		text, _, _ := rules.Print(s)
		one, _, _, _ := rules.Parse(text)
		two, _, _, _ := rules.Parse(text)
		for i := range one.Rules {
			one.Rules[i] = api.Rule{EA: 7}
		}
		one.Rules = append(one.Rules, api.Rule{EA: 8})
		if !plainSame(two, s) {
			t.Fatalf("%v became %v", s, two)
		}
		w := wild(r)
		rules.Check(w)
		rules.Parse(someText(r))
		rules.Best4(w, some4(r))
		if three, _, _, e := rules.Parse(text); e != api.OK || !plainSame(three, s) {
			t.Fatalf("%v became %v, %d", s, three, e)
		}
		if again, _, _ := rules.Print(two); again != text {
			t.Fatalf("%q became %q", text, again)
		}
	}
}

// Rule 4: what is handed in is not changed, by Best4, Best6, Own and Same either.
func TestHandedIn(t *testing.T) {
	r := dice()
	for range 2000 {
		s, other := wild(r), wild(r)
		was, wasOther := own(s), own(other)
		a, x := near(r, s)
		rules.Best4(s, a)
		rules.Best6(s, x)
		rules.Own(s, a, 5000)
		if rules.Same(s, other) != plainSame(s, other) {
			t.Fatalf("%v and %v", s, other)
		}
		if !plainSame(s, was) || !plainSame(other, wasOther) {
			t.Fatalf("%v became %v", was, s)
		}
	}
}

package rules_test

import (
	"math/rand/v2"
	"strings"
	"testing"

	"ferryman/api"
	"ferryman/mapping"
	"ferryman/rules"
)

// plainBest is P11.4 of prefixes as letters, of which those that may not be have nothing.
func plainBest(n int, bits func(int) (string, bool), a string) (int, bool) {
	best, long, found := 0, 0, false
	for i := n - 1; i >= 0; i-- { // from behind, so that of alike ones the first is left
		if p, may := bits(i); may && strings.HasPrefix(a, p) && (!found || len(p) >= long) {
			best, long, found = i, len(p), true
		}
	}
	return best, found
}

func plainBest4(s api.RuleSet, a api.Addr4) (int, bool) {
	return plainBest(len(s.Rules), func(i int) (string, bool) { return bits4(s.Rules[i].V4) }, text4(a))
}

func plainBest6(s api.RuleSet, x api.Addr6) (int, bool) {
	return plainBest(len(s.Rules), func(i int) (string, bool) { return bits6(s.Rules[i].V6) }, text6(x))
}

// holdBest holds Best4, Best6 and Own against the plain ones, and tells Own's error.
func holdBest(t *testing.T, s api.RuleSet, a api.Addr4, x api.Addr6, port uint16) api.Errno {
	t.Helper()
	want, has := plainBest4(s, a)
	if i, ok := rules.Best4(s, a); i != want || ok != has {
		t.Fatalf("Best4 of %v, %v: %d, %v; want %d, %v", s, a, i, ok, want, has)
	}
	if i, ok := rules.Best6(s, x); true {
		if want, has := plainBest6(s, x); i != want || ok != has {
			t.Fatalf("Best6 of %v, %v: %d, %v; want %d, %v", s, x, i, ok, want, has)
		}
	}
	wantOwn, wantE := api.Addr6{}, api.ErrNone
	if has {
		wantOwn, wantE = mapping.Map(s.Rules[want], a, port)
	}
	if wantE != api.OK {
		wantOwn, want = api.Addr6{}, 0
	}
	if y, i, e := rules.Own(s, a, port); y != wantOwn || i != want || e != wantE {
		t.Fatalf("Own of %v, %v, %d: %v, %d, %d; want %v, %d, %d", s, a, port, y, i, e, wantOwn, want, wantE)
	}
	return wantE
}

// The chapter's example, and its rule's neighbours.
func TestExample(t *testing.T) {
	s, line, col, e := rules.Parse("mode map-e\nrelay 2001:db8:ffff::1\nrule 2001:db8::/40 192.0.2.0/24 ea 16 offset 6 fmr\n")
	if e != api.OK || line != 0 || col != 0 || !s.Rules[0].FMR {
		t.Fatal(s, line, col, e)
	}
	x, i, e := rules.Own(s, api.Addr4{192, 0, 2, 18}, 1232)
	if x != six(t, "2001:db8:12:3400:0:c000:212:34") || i != 0 || e != api.OK {
		t.Error(x, i, e)
	}
	if i, ok := rules.Best6(s, x); i != 0 || !ok {
		t.Error(i, ok)
	}
	if i, ok := rules.Best6(s, s.Relay); i != 0 || ok {
		t.Error(i, ok)
	}
	if x, i, e := rules.Own(s, api.Addr4{192, 0, 2, 18}, 80); x != (api.Addr6{}) || i != 0 || e != api.ErrPort {
		t.Error(x, i, e)
	}
	if x, i, e := rules.Own(s, api.Addr4{192, 0, 3, 18}, 1232); x != (api.Addr6{}) || i != 0 || e != api.ErrNone {
		t.Error(x, i, e)
	}
}

// P11.4: no rules, of any mode.
func TestBestNone(t *testing.T) {
	for _, s := range []api.RuleSet{{}, {Rules: []api.Rule{}}, domainX(t), {Mode: 9, Relay: six(t, "::1")}} {
		if i, ok := rules.Best4(s, api.Addr4{}); i != 0 || ok {
			t.Error(s, i, ok)
		}
		if i, ok := rules.Best6(s, api.Addr6{}); i != 0 || ok {
			t.Error(s, i, ok)
		}
		if x, i, e := rules.Own(s, api.Addr4{}, 0); x != (api.Addr6{}) || i != 0 || e != api.ErrNone {
			t.Error(s, x, i, e)
		}
	}
}

// P11.4: the longest one, wherever it stands, of alike ones the first; those that may not be have nothing; of rule sets that may not be.
func TestBestLongest(t *testing.T) {
	long, short, none := rule(t, "2001:db8:1::/48", "192.0.2.0/26", 0, 0), rule(t, "2001:db8::/32", "192.0.2.0/24", 0, 0), rule(t, "3001::/16", "10.0.0.0/8", 0, 0)
	all := rule(t, "::/0", "0.0.0.0/0", 0, 0)
	full := rule(t, "2001:db8:1::1/128", "192.0.2.1/32", 0, 0) // mapping takes none of its kind: V6 is too long
	wrong := full
	wrong.V6.Len, wrong.V4.Len = 127, 31
	wide := full
	wide.V6.Len, wide.V4.Len = 129, 33
	below := api.Rule{V6: api.Prefix6{Len: -1}, V4: api.Prefix4{Len: -1}}
	a, x := api.Addr4{192, 0, 2, 1}, six(t, "2001:db8:1::1")
	for _, c := range []struct {
		rules []api.Rule
		best  int
		has   bool
	}{
		{[]api.Rule{long}, 0, true}, {[]api.Rule{none}, 0, false}, {[]api.Rule{none, none}, 0, false},
		{[]api.Rule{long, short}, 0, true}, {[]api.Rule{short, long}, 1, true}, {[]api.Rule{none, short, long, none}, 2, true},
		{[]api.Rule{all}, 0, true}, {[]api.Rule{none, all}, 1, true}, {[]api.Rule{all, all}, 0, true}, {[]api.Rule{all, short, all}, 1, true},
		{[]api.Rule{long, long}, 0, true}, {[]api.Rule{short, long, long, short, long}, 1, true},
		{[]api.Rule{full, long}, 0, true}, {[]api.Rule{all, short, long, full, full}, 3, true},
		{[]api.Rule{wrong}, 0, false}, {[]api.Rule{wide}, 0, false}, {[]api.Rule{below}, 0, false}, {[]api.Rule{wrong, wide, below, short}, 3, true}, {[]api.Rule{wrong, long, wide}, 1, true}, {[]api.Rule{below, all, below}, 1, true},
		{append(many(100), short, long, short), 101, true},
	} {
		for mode := range api.Mode(5) {
			s := api.RuleSet{Mode: mode, Relay: x, Rules: c.rules}
			if i, ok := rules.Best4(s, a); i != c.best || ok != c.has {
				t.Errorf("Best4 of %v: %d, %v; want %d, %v", c.rules, i, ok, c.best, c.has)
			}
			if i, ok := rules.Best6(s, x); i != c.best || ok != c.has {
				t.Errorf("Best6 of %v: %d, %v; want %d, %v", c.rules, i, ok, c.best, c.has)
			}
			holdBest(t, s, a, x, 5000)
		}
	}
}

// P11.4: V4 and V6 are asked each on its own.
func TestBestApart(t *testing.T) {
	s := api.RuleSet{Rules: []api.Rule{
		rule(t, "2001:db8::/40", "192.0.2.0/30", 0, 0), rule(t, "2001:db8::/48", "192.0.2.0/28", 0, 0),
		{V6: prefix6(t, "2001:db8::/56"), V4: api.Prefix4{Len: 40}}, {V6: api.Prefix6{Len: 200}, V4: prefix4(t, "192.0.2.1/32")},
	}}
	if i, ok := rules.Best4(s, api.Addr4{192, 0, 2, 1}); i != 3 || !ok {
		t.Error(i, ok)
	}
	if i, ok := rules.Best4(s, api.Addr4{192, 0, 2, 2}); i != 0 || !ok {
		t.Error(i, ok)
	}
	if i, ok := rules.Best6(s, six(t, "2001:db8::1")); i != 2 || !ok {
		t.Error(i, ok)
	}
}

// P11.4: Own's errors: no rule has it; the best one has it, but Map tells an error, even where another one would tell none.
func TestOwnErrors(t *testing.T) {
	a := api.Addr4{192, 0, 2, 18}
	fine := rule(t, "2001:db8::/40", "192.0.2.0/24", 16, 6)
	for what, c := range map[string]struct {
		rules []api.Rule
		port  uint16
		i     int
		e     api.Errno
	}{
		"fine":               {[]api.Rule{fine}, 1232, 0, api.OK},
		"behind another":     {[]api.Rule{rule(t, "::/0", "0.0.0.0/0", 8, 0), fine}, 1232, 1, api.OK},
		"nobody's":           {[]api.Rule{fine}, 1023, 0, api.ErrPort},
		"nobody's, behind":   {[]api.Rule{rule(t, "::/0", "0.0.0.0/0", 8, 0), fine}, 1023, 0, api.ErrPort},
		"V6 that is not":     {[]api.Rule{{V6: api.Prefix6{Len: -1}, V4: fine.V4, EA: 16, Offset: 6}}, 1232, 0, api.ErrPrefix},
		"V6 that is too big": {[]api.Rule{{V6: prefix6(t, "2001:db8::/49"), V4: fine.V4, EA: 16, Offset: 6}}, 1232, 0, api.ErrRule},
		"a wrong one, best":  {[]api.Rule{fine, {V6: fine.V6, V4: prefix4(t, "192.0.2.16/28"), EA: -1}}, 1232, 0, api.ErrRule},
		"a wrong one, not":   {[]api.Rule{{V6: fine.V6, V4: prefix4(t, "192.0.0.0/16"), EA: -1}, fine}, 1232, 1, api.OK},
		"V4 that is not":     {[]api.Rule{{V6: fine.V6, V4: api.Prefix4{Addr: a, Len: 24}}}, 1232, 0, api.ErrNone},
		"another":            {[]api.Rule{rule(t, "2001:db8::/40", "192.0.3.0/24", 16, 6)}, 1232, 0, api.ErrNone},
	} {
		x, i, e := rules.Own(api.RuleSet{Rules: c.rules}, a, c.port)
		if i != c.i || e != c.e || (x == api.Addr6{}) != (e != api.OK) {
			t.Errorf("%s: %v, %d, %d; want %d, %d", what, x, i, e, c.i, c.e)
		}
		if e == api.OK && x != six(t, "2001:db8:12:3400:0:c000:212:34") {
			t.Errorf("%s: %v", what, x)
		}
	}
}

// near are addresses that a rule has, or has not by a bit, or any.
func near(r *rand.Rand, s api.RuleSet) (api.Addr4, api.Addr6) {
	a, x := some4(r), some6(r)
	if len(s.Rules) == 0 || r.IntN(8) == 0 {
		return a, x
	}
	y := s.Rules[r.IntN(len(s.Rules))]
	if p, may := bits4(y.V4); may {
		a = addr4(p + text4(a)[len(p):])
	}
	if p, may := bits6(y.V6); may {
		x = addr6(p + text6(x)[len(p):])
	}
	if r.IntN(3) == 0 {
		a[r.IntN(4)] ^= 1 << r.IntN(8)
		x[r.IntN(16)] ^= 1 << r.IntN(8)
	}
	return a, x
}

// P11.4: random rule sets, many of which may not be, with short prefixes that cover one another.
func TestRandomBest(t *testing.T) {
	r := dice()
	seen := map[api.Errno]int{}
	for range 12000 {
		s := wild(r)
		if r.IntN(2) == 0 {
			for i := range s.Rules {
				n, m := r.IntN(12), r.IntN(10)
				s.Rules[i].V6 = api.Prefix6{Addr: addr6(text6(some6(r))[:n%4]), Len: n}
				s.Rules[i].V4 = api.Prefix4{Addr: addr4(text4(some4(r))[:m%3]), Len: m}
			}
		}
		for range 3 {
			a, x := near(r, s)
			seen[holdBest(t, s, a, x, uint16(r.Uint32()>>r.IntN(32)))]++
		}
	}
	for _, e := range []api.Errno{api.OK, api.ErrNone, api.ErrPort, api.ErrPrefix, api.ErrRule} {
		if seen[e] < 100 {
			t.Error("too few of", e, seen)
		}
	}
}

package rules_test

import (
	"math/rand/v2"
	"slices"
	"testing"

	"ferryman/api"
	"ferryman/mapping"
	"ferryman/rules"
)

func some4(r *rand.Rand) (a api.Addr4) {
	for i := range a {
		a[i] = byte(r.Uint32())
	}
	return a
}

func some6(r *rand.Rand) (x api.Addr6) {
	for i := range x {
		x[i] = byte(r.Uint32())
	}
	return x
}

// leaves are n runs of letters, none ahead of another one, at most so long; many lie side by side.
func leaves(r *rand.Rand, n int, first string, longest int) []string {
	l := []string{first}
	for len(l) < n || r.IntN(3) > 0 {
		i := r.IntN(len(l))
		if len(l[i]) == longest {
			continue
		}
		stem := l[i]
		if len(l) < 4 { // a gap, where there is room left for 64
			stem += text4(some4(r))[:r.IntN(4)]
		}
		l[i] = stem + "0"
		l = append(l, stem+"1")
	}
	r.Shuffle(len(l), func(i, j int) { l[i], l[j] = l[j], l[i] })
	return l[:n]
}

// someRules are rules that may be and don't meet.
func someRules(r *rand.Rand, n int) []api.Rule {
	v6 := leaves(r, n, text6(some6(r))[:r.IntN(30)], 60)
	v4 := leaves(r, n, text4(some4(r))[:r.IntN(9)], 32)
	out := make([]api.Rule, n)
	for i := range out {
		x := api.Rule{V6: api.Prefix6{Addr: addr6(v6[i]), Len: len(v6[i])}, V4: api.Prefix4{Addr: addr4(v4[i]), Len: len(v4[i])}, FMR: r.IntN(2) == 0}
		for {
			x.EA, x.Offset = r.IntN(49), r.IntN(16)
			if mapping.Check(x) == api.OK {
				break
			}
		}
		out[i] = x
	}
	return out
}

// someSet is a rule set that may be.
func someSet(r *rand.Rand) api.RuleSet {
	for {
		s := api.RuleSet{Mode: api.Mode(1 + r.IntN(3))}
		if s.Mode != api.Xlat {
			s.Rules = someRules(r, 1+r.IntN(1<<r.IntN(7)))
		}
		for range 20 {
			if s.Mode == api.MapE {
				s.Relay = some6(r)
			} else {
				n := []int{32, 40, 48, 56, 64, 96}[r.IntN(6)]
				s.Prefix = api.Prefix6{Addr: addr6(text6(some6(r))[:n]), Len: n}
				s.Prefix.Addr[8] = 0
			}
			if _, e := plainCheck(s); e == api.OK {
				return s
			}
		}
	}
}

// number is one of a rule's numbers.
func number(r *api.Rule, i int) *int {
	return []*int{&r.V6.Len, &r.V4.Len, &r.EA, &r.Offset}[i]
}

// spoil does one thing to a rule set that is its own.
func spoil(r *rand.Rand, s *api.RuleSet) {
	n := len(s.Rules)
	if n == 0 || r.IntN(3) == 0 {
		spoilHead(r, s)
		return
	}
	x := &s.Rules[r.IntN(n)]
	switch r.IntN(8) {
	case 0:
		*number(x, r.IntN(4)) += 1 - 2*r.IntN(2)
	case 1:
		*number(x, r.IntN(4)) = far[r.IntN(len(far))]
	case 2:
		x.V6.Addr[r.IntN(16)] ^= 1 << r.IntN(8)
	case 3:
		x.V4.Addr[r.IntN(4)] ^= 1 << r.IntN(8)
	case 4:
		x.V6 = s.Rules[r.IntN(n)].V6
	case 5:
		x.V4 = s.Rules[r.IntN(n)].V4
	case 6: // a shorter prefix that may cover another one, with the EA bits it had
		n := min(max(x.V6.Len-1-r.IntN(8), 0), 128)
		x.V6 = api.Prefix6{Addr: addr6(text6(x.V6.Addr)[:n]), Len: n}
	default:
		n := max(min(x.V4.Len+1+r.IntN(4), 32), 0)
		if y := s.Rules[r.IntN(len(s.Rules))].V4; y.Len <= n && y.Len >= 0 {
			x.V4 = api.Prefix4{Addr: addr4((text4(y.Addr)[:y.Len] + text4(some4(r)))[:n]), Len: n}
		}
	}
}

// spoilHead does one thing to what is no rule.
func spoilHead(r *rand.Rand, s *api.RuleSet) {
	var near api.Prefix6
	if n := len(s.Rules); n > 0 {
		near = s.Rules[r.IntN(n)].V6
	}
	switch r.IntN(8) {
	case 0:
		s.Mode = api.Mode(r.IntN(6) - 1)
	case 1:
		s.Relay = api.Addr6{}
	case 2:
		s.Relay = near.Addr
		s.Relay[r.IntN(16)] ^= 1 << r.IntN(8)
	case 3:
		s.Prefix = near
	case 4:
		s.Prefix = api.Prefix6{Addr: addr6(text6(near.Addr)[:32]), Len: 32}
	case 5:
		s.Prefix.Len += 8 * (r.IntN(5) - 2)
	case 6:
		s.Prefix.Addr[r.IntN(16)] ^= 1 << r.IntN(8)
	default:
		s.Rules = append(s.Rules, s.Rules...)
	}
}

// wild is a rule set that often may not be, by one thing or more.
func wild(r *rand.Rand) api.RuleSet {
	s := someSet(r)
	for range r.IntN(3) {
		spoil(r, &s)
	}
	return s
}

// own is a copy that shares nothing.
func own(s api.RuleSet) api.RuleSet {
	s.Rules = slices.Clone(s.Rules)
	return s
}

// P11.1, P11.3: random rule sets, many of which may not be; what is handed in stays as it is (rule 4).
func TestRandomSets(t *testing.T) {
	r := dice()
	seen := map[api.Errno]int{}
	for range 15000 {
		s := wild(r)
		was := own(s)
		seen[holdCheck(t, s)]++
		holdBack(t, s)
		if s.Mode != was.Mode || s.Relay != was.Relay || s.Prefix != was.Prefix || !slices.Equal(s.Rules, was.Rules) {
			t.Fatalf("%v became %v", was, s)
		}
	}
	for _, e := range []api.Errno{api.OK, api.ErrMany, api.ErrPrefix, api.ErrRule, api.ErrMeet, api.ErrDomain} {
		if seen[e] < 20 {
			t.Error("too few of", e, seen)
		}
	}
}

// holdBack: what is printed is read as the same (P11.6), and is printed as plainPrint (P11.3).
func holdBack(t *testing.T, s api.RuleSet) {
	t.Helper()
	text, i, e := rules.Print(s)
	if e != api.OK {
		return
	}
	if want := plainPrint(s); text != want || i != 0 {
		t.Fatalf("Print of %v: %q, %d; want %q", s, text, i, want)
	}
	back, line, col, e := rules.Parse(text)
	if e != api.OK || line != 0 || col != 0 || !rules.Same(s, back) || !plainSame(s, back) {
		t.Fatalf("Parse of %q: %v, %d, %d, %d; want %v", text, back, line, col, e, s)
	}
}

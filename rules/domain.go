package rules

import (
	"slices"

	"ferryman/addr"
	"ferryman/api"
	"ferryman/embed"
)

// best is the number of the rule of which ask tells that it has something, by the longest prefix.
func best(l []api.Rule, ask func(api.Rule) (int, bool)) (int, bool) {
	at, longest := 0, -1
	for i, r := range l {
		if n, has := ask(r); has && n > longest {
			at, longest = i, n
		}
	}
	return at, longest >= 0
}

// meet tells whether two rules have an address in common, of either kind.
func meet(a, b api.Rule) bool {
	return meet6(a.V6, b.V6) || meet4(a.V4, b.V4)
}

// meet4 tells whether one of two prefixes covers the other.
func meet4(p, q api.Prefix4) bool {
	over, _ := addr.Cover4(p, q)
	under, _ := addr.Cover4(q, p)
	return over || under
}

// meet6 tells whether one of two prefixes covers the other.
func meet6(p, q api.Prefix6) bool {
	over, _ := addr.Cover6(p, q)
	under, _ := addr.Cover6(q, p)
	return over || under
}

// domain tells whether a rule set may be, the rules of which may be and don't meet.
func domain(s api.RuleSet) bool {
	switch s.Mode {
	case api.MapE:
		return len(s.Rules) > 0 && relayFits(s)
	case api.MapT:
		return len(s.Rules) > 0 && prefixFits(s)
	case api.Xlat:
		return len(s.Rules) == 0 && prefixFits(s)
	}
	return false
}

// relayFits tells whether a rule set has a relay's address beside its rules, and no prefix.
func relayFits(s api.RuleSet) bool {
	_, taken := Best6(s, s.Relay)
	return s.Relay != api.Addr6{} && !taken && s.Prefix == api.Prefix6{}
}

// prefixFits tells whether a rule set has a prefix for IPv4 addresses beside its rules, and no relay's address.
func prefixFits(s api.RuleSet) bool {
	taken := slices.ContainsFunc(s.Rules, func(r api.Rule) bool { return meet6(r.V6, s.Prefix) })
	return s.Relay == api.Addr6{} && embed.Check(s.Prefix) == api.OK && !taken
}

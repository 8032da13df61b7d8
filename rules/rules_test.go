package rules_test

import (
	"math"
	"math/rand/v2"
	"slices"
	"strings"
	"testing"

	"ferryman/addr"
	"ferryman/api"
	"ferryman/mapping"
	"ferryman/rules"
)

func dice() *rand.Rand { return rand.New(rand.NewPCG(11, 7)) }

// far are numbers outside everything, many of which may be in fewer bits of a number.
var far = []int{math.MinInt, math.MinInt + 16, -1 << 32, -1<<32 + 8, -256, -1, 129, 256, 256 + 16, 1<<16 + 8, 1 << 32, 1<<32 + 6, math.MaxInt - 63, math.MaxInt}

// ofByte are the letters of each byte.
var ofByte = func() (out [256]string) {
	for i := range out {
		for at := range 8 {
			out[i] += string(rune('0' + i>>(7-at)&1))
		}
	}
	return out
}()

// letters are the bits of bytes, a letter each.
func letters(b []byte) string {
	s := make([]byte, 0, 8*len(b))
	for _, x := range b {
		s = append(s, ofByte[x]...)
	}
	return string(s)
}

// fill writes letters to bytes that are 0.
func fill(b []byte, s string) {
	for i, x := range s {
		if x == '1' {
			b[i/8] |= 128 >> (i % 8)
		}
	}
}

func addr4(s string) (a api.Addr4) {
	fill(a[:], s)
	return a
}

func addr6(s string) (x api.Addr6) {
	fill(x[:], s)
	return x
}

func text4(a api.Addr4) string { return letters(a[:]) }

func text6(x api.Addr6) string { return letters(x[:]) }

// bits4 are the letters of a prefix; false: it may not be.
func bits4(p api.Prefix4) (string, bool) {
	if p.Len < 0 || p.Len > 32 || strings.Contains(text4(p.Addr)[p.Len:], "1") {
		return "", false
	}
	return text4(p.Addr)[:p.Len], true
}

// bits6 are the letters of a prefix; false: it may not be.
func bits6(p api.Prefix6) (string, bool) {
	if p.Len < 0 || p.Len > 128 || strings.Contains(text6(p.Addr)[p.Len:], "1") {
		return "", false
	}
	return text6(p.Addr)[:p.Len], true
}

// meet tells of the letters of two prefixes that may be whether one covers the other.
func meet(a, b string) bool { return strings.HasPrefix(a, b) || strings.HasPrefix(b, a) }

// plainCheck is P11.1 and the chapter's section Words, with prefixes read as letters.
func plainCheck(s api.RuleSet) (int, api.Errno) {
	if len(s.Rules) > 64 {
		return -1, api.ErrMany
	}
	var v6, v4 []string
	for i, r := range s.Rules {
		if e := mapping.Check(r); e != api.OK {
			return i, e
		}
		a, _ := bits6(r.V6)
		b, _ := bits4(r.V4)
		v6, v4 = append(v6, a), append(v4, b)
	}
	for i := range v6 {
		for j := range i {
			if meet(v6[i], v6[j]) || meet(v4[i], v4[j]) {
				return i, api.ErrMeet
			}
		}
	}
	if !plainDomain(s, v6) {
		return -1, api.ErrDomain
	}
	return 0, api.OK
}

// plainDomain is what is left of it where the rules may be and don't meet.
func plainDomain(s api.RuleSet, v6 []string) bool {
	if s.Mode < api.MapE || s.Mode > api.Xlat || (s.Mode == api.Xlat) != (len(v6) == 0) {
		return false
	}
	relay := text6(s.Relay)
	if s.Mode == api.MapE {
		taken := slices.ContainsFunc(v6, func(x string) bool { return strings.HasPrefix(relay, x) })
		return strings.Contains(relay, "1") && !taken && s.Prefix == api.Prefix6{}
	}
	prefix, may := bits6(s.Prefix)
	if strings.Contains(relay, "1") || !may || !slices.Contains([]int{32, 40, 48, 56, 64, 96}, len(prefix)) {
		return false
	}
	taken := slices.ContainsFunc(v6, func(x string) bool { return meet(x, prefix) })
	return s.Prefix.Addr[8] == 0 && !taken
}

// holdCheck holds Check, and Print where it has an error, against plainCheck.
func holdCheck(t *testing.T, s api.RuleSet) api.Errno {
	t.Helper()
	i, e := plainCheck(s)
	if got, f := rules.Check(s); got != i || f != e {
		t.Fatalf("Check of %v: %d, %d; want %d, %d", s, got, f, i, e)
	}
	if e == api.OK {
		return e
	}
	if text, got, f := rules.Print(s); text != "" || got != i || f != e {
		t.Fatalf("Print of %v: %q, %d, %d; want %d, %d", s, text, got, f, i, e)
	}
	return e
}

// wantCheck holds Check and Print against what is told.
func wantCheck(t *testing.T, what string, s api.RuleSet, i int, e api.Errno) {
	t.Helper()
	if got, f := rules.Check(s); got != i || f != e {
		t.Errorf("%s: Check: %d, %d; want %d, %d", what, got, f, i, e)
	}
	text, got, f := rules.Print(s)
	if got != i || f != e || (text == "") != (e != api.OK) {
		t.Errorf("%s: Print: %q, %d, %d; want %d, %d", what, text, got, f, i, e)
	}
	holdCheck(t, s)
}

func prefix4(t *testing.T, s string) api.Prefix4 {
	t.Helper()
	p, _, e := addr.Prefix4(s)
	if e != api.OK {
		t.Fatal(s, e)
	}
	return p
}

func prefix6(t *testing.T, s string) api.Prefix6 {
	t.Helper()
	p, _, e := addr.Prefix6(s)
	if e != api.OK {
		t.Fatal(s, e)
	}
	return p
}

func six(t *testing.T, s string) api.Addr6 {
	t.Helper()
	x, _, e := addr.Parse6(s)
	if e != api.OK {
		t.Fatal(s, e)
	}
	return x
}

// rule is one of texts.
func rule(t *testing.T, v6, v4 string, ea, offset int) api.Rule {
	t.Helper()
	return api.Rule{V6: prefix6(t, v6), V4: prefix4(t, v4), EA: ea, Offset: offset}
}

// domainE is one of MapE that may be.
func domainE(t *testing.T) api.RuleSet {
	t.Helper()
	return api.RuleSet{Mode: api.MapE, Relay: six(t, "2001:db8:ffff::1"), Rules: []api.Rule{
		rule(t, "2001:db8::/40", "192.0.2.0/24", 16, 6),
		rule(t, "2001:db8:100::/40", "198.51.100.0/24", 8, 4),
		rule(t, "2001:db8:200::/40", "203.0.113.0/25", 0, 0),
	}}
}

// domainT is one of MapT that may be.
func domainT(t *testing.T) api.RuleSet {
	t.Helper()
	s := domainE(t)
	s.Mode, s.Relay, s.Prefix = api.MapT, api.Addr6{}, prefix6(t, "2001:db8:ffff::/64")
	return s
}

// domainX is one of Xlat that may be.
func domainX(t *testing.T) api.RuleSet {
	t.Helper()
	return api.RuleSet{Mode: api.Xlat, Prefix: prefix6(t, "64:ff9b::/96")}
}

// The errors' numbers, and the limits.
func TestNumbers(t *testing.T) {
	got := []api.Errno{api.ErrLong, api.ErrMany, api.ErrText, api.ErrHost, api.ErrPrefix, api.ErrRule, api.ErrLine, api.ErrMeet, api.ErrDomain, api.ErrNone}
	if want := []api.Errno{2, 3, 20, 21, 22, 100, 110, 111, 112, 113}; !slices.Equal(got, want) {
		t.Error(got)
	}
	if api.MaxRules != 64 || api.MaxText != 1<<20 {
		t.Error(api.MaxRules, api.MaxText)
	}
}

// P11.1: one that may be of each mode; how many rules each mode takes.
func TestMayBe(t *testing.T) {
	wantCheck(t, "MapE", domainE(t), 0, api.OK)
	wantCheck(t, "MapT", domainT(t), 0, api.OK)
	wantCheck(t, "Xlat", domainX(t), 0, api.OK)
	for _, none := range [][]api.Rule{nil, {}} {
		e, m, x := domainE(t), domainT(t), domainX(t)
		e.Rules, m.Rules, x.Rules = none, none, none
		wantCheck(t, "MapE without rules", e, -1, api.ErrDomain)
		wantCheck(t, "MapT without rules", m, -1, api.ErrDomain)
		wantCheck(t, "Xlat without rules", x, 0, api.OK)
	}
	for n := 1; n <= 3; n++ {
		e, m, x := domainE(t), domainT(t), domainX(t)
		e.Rules, m.Rules, x.Rules = e.Rules[:n], m.Rules[:n], e.Rules[:n]
		wantCheck(t, "MapE", e, 0, api.OK)
		wantCheck(t, "MapT", m, 0, api.OK)
		wantCheck(t, "Xlat with rules", x, -1, api.ErrDomain)
	}
	wantCheck(t, "nothing", api.RuleSet{}, -1, api.ErrDomain)
}

// many are rules side by side.
func many(n int) []api.Rule {
	out := make([]api.Rule, n)
	for i := range out {
		out[i] = api.Rule{V6: api.Prefix6{Addr: api.Addr6{0x20, byte(i)}, Len: 16}, V4: api.Prefix4{Addr: api.Addr4{10, byte(i)}, Len: 16}, EA: 20, Offset: 6}
	}
	return out
}

// P11.1: 64 rules are taken, of 65 nothing else is told.
func TestMany(t *testing.T) {
	for _, s := range []api.RuleSet{domainE(t), domainT(t), domainX(t), {Mode: 7}} {
		s.Prefix.Addr[0] ^= 0x40 // off the rules
		s.Relay[0] ^= 0x40
		if s.Mode == api.MapE {
			s.Prefix = api.Prefix6{}
		} else {
			s.Relay = api.Addr6{}
		}
		s.Rules = many(64)
		want := api.OK
		i := 0
		if s.Mode > api.MapT {
			i, want = -1, api.ErrDomain
		}
		wantCheck(t, "64 rules", s, i, want)
		for _, n := range []int{65, 66, 128, 256} {
			s.Rules = many(n)
			wantCheck(t, "too many", s, -1, api.ErrMany)
			s.Rules[0].EA = -1
			s.Rules[1] = s.Rules[2]
			wantCheck(t, "too many, and others", s, -1, api.ErrMany)
		}
	}
}

// P11.1: modes that are none, whatever else is right.
func TestModes(t *testing.T) {
	for _, m := range append([]int{0, 4, 5, 256 + 1, 1<<32 + 1, 1<<32 + 2, 1<<32 + 3}, far...) {
		for _, s := range []api.RuleSet{domainE(t), domainT(t), domainX(t)} {
			s.Mode = api.Mode(m)
			wantCheck(t, "mode", s, -1, api.ErrDomain)
		}
	}
	all := []api.RuleSet{domainE(t), domainT(t), domainX(t)}
	for i, s := range all {
		for j := range all {
			s.Mode = all[j].Mode
			if _, e := rules.Check(s); (e == api.OK) != (i == j) {
				t.Errorf("a rule set of mode %d as one of %d: %d", i+1, j+1, e)
			}
			holdCheck(t, s)
		}
	}
}

// P11.1: mapping's errors of each rule, the first one's.
func TestWrongRule(t *testing.T) {
	for _, s := range []api.RuleSet{domainE(t), domainT(t), {Mode: api.Xlat, Rules: domainE(t).Rules}, {Rules: domainE(t).Rules}} {
		for i := range s.Rules {
			w := s
			w.Rules = slices.Clone(s.Rules)
			w.Rules[i].EA = 49
			wantCheck(t, "EA", w, i, api.ErrRule)
			w.Rules[i].V4.Len = 33
			wantCheck(t, "V4 and EA", w, i, api.ErrPrefix)
			for j := i + 1; j < len(w.Rules); j++ {
				w.Rules[j].V6.Addr[15] = 1
				w.Rules[j].Offset = 16
				wantCheck(t, "one behind", w, i, api.ErrPrefix)
			}
			w.Rules[i] = s.Rules[i]
			w.Rules[i].Offset = -1
			wantCheck(t, "Offset", w, i, api.ErrRule)
		}
	}
}

// P11.1: which of several faults is told.
func TestOrder(t *testing.T) {
	s := domainE(t)
	s.Mode, s.Prefix = 9, prefix6(t, "2001::/16")
	wantCheck(t, "mode", s, -1, api.ErrDomain)
	s.Rules[2].V4 = s.Rules[0].V4
	wantCheck(t, "rule 2 meets 0", s, 2, api.ErrMeet)
	s.Rules[1].V6 = s.Rules[0].V6
	wantCheck(t, "rule 1 meets 0", s, 1, api.ErrMeet)
	s.Rules[2].EA = 64
	wantCheck(t, "rule 2 may not be", s, 2, api.ErrRule)
	s.Rules[1].V6.Len = -1
	wantCheck(t, "rule 1 may not be", s, 1, api.ErrPrefix)
	s.Rules = append(s.Rules, many(62)...)
	wantCheck(t, "65 rules", s, -1, api.ErrMany)
	s.Rules = s.Rules[:64]
	wantCheck(t, "64 rules", s, 1, api.ErrPrefix)
}

// P11.1: prefixes of two rules that are alike, cover one another either way, or lie side by side, whichever rules have them.
func TestMeet(t *testing.T) {
	for _, x := range []struct {
		a, b string
		six  bool
		meet bool
	}{
		{"2001:db8::/32", "2001:db8::/32", true, true},
		{"2001:db8::/32", "2001:db8:8000::/33", true, true},
		{"2001:db8::/32", "2001:db8::/33", true, true},
		{"2001:db8::/32", "2001:db8:ffff:ffff::/64", true, true},
		{"2001:db8::/33", "2001:db8:8000::/33", true, false},
		{"2001:db8::/32", "2001:db9::/32", true, false},
		{"2001:db8::/32", "2001:db7:8000::/33", true, false},
		{"::/0", "2001:db8::/32", true, true},
		{"::/0", "::/0", true, true},
		{"::/1", "8000::/1", true, false},
		{"2001:db8:0:1::/64", "2001:db8::/64", true, false},
		{"192.0.2.0/24", "192.0.2.0/24", false, true},
		{"192.0.2.0/24", "192.0.2.128/25", false, true},
		{"192.0.2.0/24", "192.0.2.0/25", false, true},
		{"192.0.2.0/24", "192.0.2.255/32", false, true},
		{"192.0.2.0/25", "192.0.2.128/25", false, false},
		{"192.0.2.0/24", "192.0.3.0/24", false, false},
		{"192.0.2.0/24", "192.0.1.255/32", false, false},
		{"0.0.0.0/0", "10.0.0.0/8", false, true},
		{"0.0.0.0/0", "0.0.0.0/0", false, true},
		{"0.0.0.0/1", "128.0.0.0/1", false, false},
		{"10.0.0.0/32", "10.0.0.1/32", false, false},
	} {
		for _, pair := range [][2]int{{0, 1}, {0, 2}, {1, 2}} {
			holdMeet(t, x.a, x.b, x.six, pair, x.meet)
			holdMeet(t, x.b, x.a, x.six, pair, x.meet)
		}
	}
}

func holdMeet(t *testing.T, a, b string, six bool, at [2]int, want bool) {
	t.Helper()
	s := api.RuleSet{Mode: api.MapT, Prefix: prefix6(t, "64:ff9b::/96"), Rules: []api.Rule{
		rule(t, "3ffe::/32", "1.0.0.0/24", 0, 0), rule(t, "3fff::/32", "1.0.1.0/24", 0, 0), rule(t, "3ffd::/32", "1.0.2.0/24", 0, 0),
	}}
	for i, text := range []string{a, b} {
		r := &s.Rules[at[i]]
		if six {
			r.V6 = prefix6(t, text)
		} else {
			r.V4 = prefix4(t, text)
		}
	}
	i, e := rules.Check(s)
	if _, wantE := plainCheck(s); e != wantE {
		t.Errorf("%s, %s: %d, %d; want %d", a, b, i, e, wantE)
	}
	third := strings.HasSuffix(a, "/0") || strings.HasSuffix(b, "/0") || strings.HasSuffix(a, "/1") // that meets the rule between, too, or the Prefix
	if third {
		holdCheck(t, s)
		return
	}
	if want && (i != at[1] || e != api.ErrMeet) || !want && (i != 0 || e != api.OK) {
		t.Errorf("%s, %s at %v: %d, %d", a, b, at, i, e)
	}
}

// P11.1: Relay of MapE: ::, one that a V6 has, and one that lies just beside; Prefix must be zero.
func TestRelay(t *testing.T) {
	for text, want := range map[string]api.Errno{
		"::": api.ErrDomain, "::1": api.OK, "8000::": api.OK,
		"2001:db8::": api.ErrDomain, "2001:db8:ff:ffff:ffff:ffff:ffff:ffff": api.ErrDomain, "2001:db8:1ab::1": api.ErrDomain, "2001:db8:2ff::": api.ErrDomain,
		"2001:db7:ffff:ffff:ffff:ffff:ffff:ffff": api.OK, "2001:db8:300::": api.OK,
	} {
		s := domainE(t)
		s.Relay = six(t, text)
		i := 0
		if want != api.OK {
			i = -1
		}
		wantCheck(t, text, s, i, want)
		s.Mode, s.Prefix = api.MapT, prefix6(t, "64:ff9b::/96")
		i, want = 0, api.OK
		if text != "::" {
			i, want = -1, api.ErrDomain
		}
		wantCheck(t, "MapT with "+text, s, i, want)
		s.Mode, s.Rules = api.Xlat, nil
		wantCheck(t, "Xlat with "+text, s, i, want)
	}
	for _, p := range []api.Prefix6{{Len: 1}, {Len: 96}, {Len: -1}, {Addr: api.Addr6{1}}, {Addr: api.Addr6{15: 1}}, prefix6(t, "64:ff9b::/96")} {
		s := domainE(t)
		s.Prefix = p
		wantCheck(t, "MapE with a Prefix", s, -1, api.ErrDomain)
	}
	s := domainE(t)
	s.Rules = s.Rules[:1]
	s.Rules[0] = rule(t, "::/0", "192.0.2.0/24", 16, 6)
	wantCheck(t, "a V6 that has all", s, -1, api.ErrDomain)
}

// P11.1: Prefix of MapT and Xlat: zero, such as embed does not take, one that covers a V6, that a V6 covers, that lies beside.
func TestPrefix(t *testing.T) {
	for text, want := range map[string][2]api.Errno{ // of MapT, of Xlat
		"::/0": {112, 112}, "64:ff9b::/96": {0, 0}, "64:ff9b::/95": {112, 112}, "64:ff9b::/97": {112, 112}, "64:ff9b::/128": {112, 112}, "64:ff9b:0:0:100::/96": {112, 112},
		"64:ff9b:0:0:ff:ffff::/96": {0, 0}, "::/32": {0, 0}, "::/96": {0, 0}, "::/33": {112, 112},
		"2001:db8::/32": {112, 0}, "2001:db8::/40": {112, 0}, "2001:db8:100::/40": {112, 0}, "2001:db8:200::/40": {112, 0}, "2001:db8:300::/40": {0, 0},
		"2001:db8:2ff::/48": {112, 0}, "2001:db8:300::/48": {0, 0}, "2001:db8:12::/56": {112, 0}, "2001:db8:1ff:ffff::/64": {112, 0}, "2001:db8:2ff:ffff:ff:ffff::/96": {112, 0}, "2001:db7::/32": {0, 0}, "2001:db9::/32": {0, 0},
	} {
		for k, s := range []api.RuleSet{domainT(t), domainX(t)} {
			s.Prefix = prefix6(t, text)
			i := 0
			if want[k] != api.OK {
				i = -1
			}
			wantCheck(t, text, s, i, want[k])
		}
	}
	for _, p := range []api.Prefix6{{Addr: api.Addr6{0x20, 1}, Len: 8}, {Addr: api.Addr6{0x30, 1, 2, 3, 4}, Len: 32}, {Addr: api.Addr6{0x30}, Len: -32}, {Addr: api.Addr6{0x30}, Len: 1<<32 + 32}, {Addr: api.Addr6{0x30}, Len: 160}} {
		for _, s := range []api.RuleSet{domainT(t), domainX(t)} {
			s.Prefix = p
			wantCheck(t, "a Prefix that may not be", s, -1, api.ErrDomain)
		}
	}
}

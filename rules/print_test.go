package rules_test

import (
	"math/rand/v2"
	"slices"
	"strconv"
	"strings"
	"testing"

	"ferryman/addr"
	"ferryman/api"
	"ferryman/rules"
)

// plainPrint is P11.3, of a rule set that may be.
func plainPrint(s api.RuleSet) string {
	lines := [][]string{{"mode", map[api.Mode]string{1: "map-e", 2: "map-t", 3: "464xlat"}[s.Mode]}}
	prefix, _ := addr.Say6(s.Prefix)
	if s.Mode == 1 {
		lines = append(lines, []string{"relay", addr.Text6(s.Relay)})
	} else {
		lines = append(lines, []string{"prefix", prefix})
	}
	for _, r := range s.Rules {
		v6 := addr.Text6(r.V6.Addr) + "/" + strconv.Itoa(r.V6.Len)
		v4 := addr.Text4(r.V4.Addr) + "/" + strconv.Itoa(r.V4.Len)
		l := []string{"rule", v6, v4, "ea", strconv.Itoa(r.EA), "offset", strconv.Itoa(r.Offset)}
		if r.FMR {
			l = append(l, "fmr")
		}
		lines = append(lines, l)
	}
	out := ""
	for _, l := range lines {
		out += strings.Join(l, " ") + "\n"
	}
	return out
}

// plainSame is P11.5, field by field.
func plainSame(a, b api.RuleSet) bool {
	if a.Mode != b.Mode || a.Relay != b.Relay || a.Prefix.Addr != b.Prefix.Addr || a.Prefix.Len != b.Prefix.Len || len(a.Rules) != len(b.Rules) {
		return false
	}
	for i, x := range a.Rules {
		y := b.Rules[i]
		if x.V6.Addr != y.V6.Addr || x.V6.Len != y.V6.Len || x.V4.Addr != y.V4.Addr || x.V4.Len != y.V4.Len || x.EA != y.EA || x.Offset != y.Offset || x.FMR != y.FMR {
			return false
		}
	}
	return true
}

// P11.3: the text of each mode, to the byte.
func TestPrint(t *testing.T) {
	for want, s := range map[string]api.RuleSet{textE: domainE(t), textT: domainT(t), textX: domainX(t)} {
		if text, i, e := rules.Print(s); text != want || i != 0 || e != api.OK {
			t.Errorf("Print: %q, %d, %d; want %q", text, i, e, want)
		}
	}
	s := domainE(t)
	s.Rules[1].FMR = true
	if text, _, _ := rules.Print(s); text != strings.Replace(textE, "offset 4\n", "offset 4 fmr\n", 1) {
		t.Errorf("Print: %q", text)
	}
}

// P11.2, P11.3: a text that is no rule set's own, read and printed, is.
func TestTidy(t *testing.T) {
	const text = "\t mode   map-e# x\n\n#\nrelay 2001:0DB8:FFFF:0::0.0.0.1  \nrule\t2001:db8:0:0::/40 192.0.2.0/24 ea 16 offset 6 fmr"
	s, _, _, e := rules.Parse(text)
	if e != api.OK {
		t.Fatal(e)
	}
	if own, _, _ := rules.Print(s); own != "mode map-e\nrelay 2001:db8:ffff::1\nrule 2001:db8::/40 192.0.2.0/24 ea 16 offset 6 fmr\n" {
		t.Errorf("Print: %q", own)
	}
}

// holdSame holds Same, both ways round, against plainSame.
func holdSame(t *testing.T, a, b api.RuleSet, want bool) {
	t.Helper()
	if rules.Same(a, b) != want || rules.Same(b, a) != want || plainSame(a, b) != want {
		t.Fatalf("%v and %v: want %v", a, b, want)
	}
}

// P11.5: each field changed alone, by each of its bits.
func TestSame(t *testing.T) {
	for _, s := range []api.RuleSet{domainE(t), domainT(t), domainX(t), {}, {Rules: many(70)}} {
		holdSame(t, s, own(s), true)
		for bit := range 64 {
			b := own(s)
			b.Mode ^= 1 << bit
			holdSame(t, s, b, false)
			b = own(s)
			b.Prefix.Len ^= 1 << bit
			holdSame(t, s, b, false)
		}
		for bit := range 128 {
			b := own(s)
			b.Relay[bit/8] ^= 1 << (bit % 8)
			holdSame(t, s, b, false)
			b = own(s)
			b.Prefix.Addr[bit/8] ^= 1 << (bit % 8)
			holdSame(t, s, b, false)
		}
		for i := range s.Rules {
			sameRule(t, s, i)
		}
	}
}

// sameRule changes each field of one rule alone.
func sameRule(t *testing.T, s api.RuleSet, i int) {
	t.Helper()
	for bit := range 128 {
		b := own(s)
		b.Rules[i].V6.Addr[bit/8] ^= 1 << (bit % 8)
		holdSame(t, s, b, false)
		b = own(s)
		b.Rules[i].V4.Addr[bit/8%4] ^= 1 << (bit % 8)
		holdSame(t, s, b, false)
		b = own(s)
		*number(&b.Rules[i], bit%4) ^= 1 << (bit / 4)
		holdSame(t, s, b, false)
	}
	b := own(s)
	b.Rules[i].FMR = !b.Rules[i].FMR
	holdSame(t, s, b, false)
	holdSame(t, s, api.RuleSet{Mode: s.Mode, Relay: s.Relay, Prefix: s.Prefix, Rules: slices.Delete(own(s).Rules, i, i+1)}, false)
	if i > 0 {
		b = own(s)
		b.Rules[i], b.Rules[i-1] = b.Rules[i-1], b.Rules[i]
		holdSame(t, s, b, false)
	}
}

// P11.5, rule 4: nil and empty Rules are the same, and what a list has room for is nothing.
func TestSameNil(t *testing.T) {
	holdSame(t, api.RuleSet{}, api.RuleSet{Rules: []api.Rule{}}, true)
	holdSame(t, domainX(t), api.RuleSet{Mode: api.Xlat, Prefix: domainX(t).Prefix, Rules: make([]api.Rule, 0, 5)}, true)
	holdSame(t, api.RuleSet{}, api.RuleSet{Rules: []api.Rule{{}}}, false)
	s := domainE(t)
	roomy := append(make([]api.Rule, 0, 99), s.Rules...)
	holdSame(t, s, api.RuleSet{Mode: s.Mode, Relay: s.Relay, Rules: roomy}, true)
}

// vocabulary is what random texts are made of.
var vocabulary = []string{
	"mode", "map-e", "map-t", "464xlat", "relay", "prefix", "rule", "ea", "offset", "fmr", "::1", "::", "64:ff9b::/96", "2001:db8::/40", "2001:db8:100::/40", "192.0.2.0/24", "10.0.0.0/8", "0", "6", "16", "99", "007", "x", "\xff", "é", "#", "mode map-e\n", "mode map-t\n", "mode 464xlat\n", "relay ::1\n", "prefix 64:ff9b::/96\n",
	"rule 2001:db8::/40 192.0.2.0/24 ea 16 offset 6\n", "rule 2001:db9::/40 192.0.3.0/24 ea 16 offset 6 fmr\n", "rule 2001:db8::/48 10.0.0.0/8 ea 16 offset 6\n", "rule 2001:dba::/48 10.0.0.0/8 ea 16 offset 6\n", "rule 2001:dbb::/48 11.0.0.0/8 ea 17 offset 6\n",
}

// someText is of random words, or of random bytes; often with a beginning that is right.
func someText(r *rand.Rand) string {
	out := []string{"", headE, oneE, textX, "mode map-t\nprefix 64:ff9b::/96\n"}[r.IntN(5)]
	for range r.IntN(12) {
		switch r.IntN(12) {
		case 0:
			out += string([]byte{byte(r.Uint32())})
		case 1:
			out += "\n"
		default:
			out += vocabulary[r.IntN(len(vocabulary))] + []string{" ", "\t", "\n", "", " ", " "}[r.IntN(6)]
		}
	}
	return out
}

// P11.2: random texts.
func TestRandomTexts(t *testing.T) {
	const signs = "modepramulf-x46tly \t\n#:/.0123\xff"
	r := dice()
	seen := map[api.Errno]int{}
	for range 60000 {
		seen[holdParse(t, someText(r))]++
		b := make([]byte, r.IntN(40))
		for i := range b {
			b[i] = signs[r.IntN(len(signs))]
		}
		holdParse(t, string(b))
	}
	for _, e := range []api.Errno{api.OK, api.ErrText, api.ErrRule, api.ErrLine, api.ErrMeet, api.ErrDomain} {
		if seen[e] < 20 {
			t.Error("too few of", e, seen)
		}
	}
}

// P11.2: texts of rule sets with a byte changed, put in or left out, at every place.
func TestOneByte(t *testing.T) {
	all := make([]byte, 256)
	for i := range all {
		all[i] = byte(i)
	}
	few := []byte("\n\t #/:.019aemrx\r\x00\xff\xc3")
	for text, put := range map[string][]byte{oneE: all, textX: all, textE: few, textT: few, "mode map-e # é\n\n relay ::1\t#\n" + oneE[len(headE):]: few} {
		for i := range len(text) + 1 {
			for _, c := range put {
				holdParse(t, text[:i]+string([]byte{c})+text[i:])
				if i < len(text) {
					holdParse(t, text[:i]+string([]byte{c})+text[i+1:])
				}
			}
			if i < len(text) {
				holdParse(t, text[:i]+text[i+1:])
				holdParse(t, text[:i]) // and cut off
				holdParse(t, text[i:])
			}
		}
	}
}

// P11.2, P11.6: random rule sets' texts, with some bytes changed.
func TestSpoiledTexts(t *testing.T) {
	r := dice()
	seen := map[api.Errno]int{}
	for range 10000 {
		s := someSet(r)
		s.Rules = s.Rules[:min(len(s.Rules), 4)]
		text, _, e := rules.Print(s)
		if e != api.OK {
			t.Fatal(s, e)
		}
		holdBack(t, s)
		b := []byte(text)
		for range 1 + r.IntN(2) {
			i := r.IntN(len(b))
			switch r.IntN(4) {
			case 0:
				b = slices.Delete(b, i, i+1)
			case 1:
				b = slices.Insert(b, i, b[r.IntN(len(b))])
			case 2:
				b[i] = byte(r.Uint32())
			default:
				b[i] = b[r.IntN(len(b))]
			}
		}
		seen[holdParse(t, string(b))]++
	}
	for _, e := range []api.Errno{api.OK, api.ErrText, api.ErrHost, api.ErrRule, api.ErrLine, api.ErrMeet, api.ErrDomain} {
		if seen[e] < 3 {
			t.Error("too few of", e, seen)
		}
	}
}

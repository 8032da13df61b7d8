package rules_test

import (
	"regexp"
	"strconv"
	"strings"
	"testing"

	"ferryman/addr"
	"ferryman/api"
	"ferryman/rules"
)

var (
	wordForm   = regexp.MustCompile(`[^ \t]+`)
	numberForm = regexp.MustCompile(`^(0|[1-9][0-9]{0,2})$`)
)

// shape is what a line's words must be; a last one in brackets may be wanting.
func shape(lines int, m api.Mode) []string {
	switch {
	case lines == 0:
		return []string{"mode", "MODE"}
	case lines > 1:
		return strings.Fields("rule P6 P4 ea EA offset OFFSET [fmr]")
	case m == api.MapE:
		return []string{"relay", "A6"}
	}
	return []string{"prefix", "DEFAULT"}
}

// plainParse is P11.2: lines that are cut apart first, each held against its shape.
func plainParse(text string) (api.RuleSet, int, int, api.Errno) {
	if len(text) > 1048576 {
		return api.RuleSet{}, 0, 0, api.ErrLong
	}
	var s api.RuleSet
	var at []int
	lines := 0
	for n, l := range strings.Split(text, "\n") {
		l, _, _ = strings.Cut(l, "#")
		spans := wordForm.FindAllStringIndex(l, -1)
		if len(spans) == 0 {
			continue
		}
		if lines > 1 {
			s.Rules = append(s.Rules, api.Rule{})
			at = append(at, n+1)
		}
		if col, e := plainLine(&s, shape(lines, s.Mode), l, spans); e != api.OK {
			return api.RuleSet{}, n + 1, col, e
		}
		lines++
	}
	if lines < 2 {
		return api.RuleSet{}, 0, 0, api.ErrLine
	}
	i, e := plainCheck(s)
	switch {
	case e == api.OK:
		return s, 0, 0, e
	case i < 0:
		return api.RuleSet{}, 0, 0, e
	}
	return api.RuleSet{}, at[i], 1, e
}

// plainLine reads words of those shapes; with an error the column.
func plainLine(s *api.RuleSet, shapes []string, l string, spans [][]int) (int, api.Errno) {
	for i, form := range shapes {
		if i == len(spans) {
			if form[0] == '[' {
				return 0, api.OK
			}
			return spans[i-1][1] + 1, api.ErrLine
		}
		if e := plainWord(s, form, l[spans[i][0]:spans[i][1]]); e != api.OK {
			return spans[i][0] + 1, e
		}
	}
	if len(spans) > len(shapes) {
		return spans[len(shapes)][0] + 1, api.ErrLine
	}
	return 0, api.OK
}

func plainWord(s *api.RuleSet, form, w string) (e api.Errno) {
	var r *api.Rule
	if n := len(s.Rules); n > 0 {
		r = &s.Rules[n-1]
	}
	number := func(p *int) api.Errno {
		if !numberForm.MatchString(w) {
			return api.ErrLine
		}
		*p, _ = strconv.Atoi(w)
		return api.OK
	}
	switch form {
	case "MODE":
		s.Mode = map[string]api.Mode{"map-e": 1, "map-t": 2, "464xlat": 3}[w]
		if s.Mode == 0 {
			return api.ErrLine
		}
	case "A6":
		s.Relay, _, e = addr.Parse6(w)
	case "DEFAULT":
		s.Prefix, _, e = addr.Prefix6(w)
	case "P6":
		r.V6, _, e = addr.Prefix6(w)
	case "P4":
		r.V4, _, e = addr.Prefix4(w)
	case "EA":
		return number(&r.EA)
	case "OFFSET":
		return number(&r.Offset)
	case "[fmr]":
		r.FMR = w == "fmr"
		if !r.FMR {
			return api.ErrLine
		}
	default:
		if w != form {
			return api.ErrLine
		}
	}
	return e
}

// holdParse holds Parse against plainParse, with rule 2: beside an error no rule set, without one no place.
func holdParse(t *testing.T, text string) api.Errno {
	t.Helper()
	s, line, col, e := rules.Parse(text)
	want, wantLine, wantCol, wantE := plainParse(text)
	if line != wantLine || col != wantCol || e != wantE || !plainSame(s, want) {
		if len(text) > 1000 {
			text = text[:1000] + ".."
		}
		t.Fatalf("Parse(%q): %v, %d, %d, %d; want %v, %d, %d, %d", text, s, line, col, e, want, wantLine, wantCol, wantE)
	}
	if e != api.OK && (s.Mode != 0 || s.Relay != api.Addr6{} || s.Prefix != api.Prefix6{} || len(s.Rules) != 0) {
		t.Fatalf("Parse(%q): %v beside %d", text, s, e)
	}
	return e
}

// wantParse holds Parse against a place and an error.
func wantParse(t *testing.T, text string, line, col int, e api.Errno) {
	t.Helper()
	if _, l, c, f := rules.Parse(text); l != line || c != col || f != e {
		t.Errorf("Parse(%q): %d, %d, %d; want %d, %d, %d", text, l, c, f, line, col, e)
	}
	holdParse(t, text)
}

// good holds Parse against a rule set.
func good(t *testing.T, text string, want api.RuleSet) {
	t.Helper()
	s, line, col, e := rules.Parse(text)
	if line != 0 || col != 0 || e != api.OK || !plainSame(s, want) {
		t.Errorf("Parse(%q): %v, %d, %d, %d; want %v", text, s, line, col, e, want)
	}
	holdParse(t, text)
}

const (
	textE = "mode map-e\nrelay 2001:db8:ffff::1\nrule 2001:db8::/40 192.0.2.0/24 ea 16 offset 6\nrule 2001:db8:100::/40 198.51.100.0/24 ea 8 offset 4\nrule 2001:db8:200::/40 203.0.113.0/25 ea 0 offset 0\n"
	textT = "mode map-t\nprefix 2001:db8:ffff::/64\nrule 2001:db8::/40 192.0.2.0/24 ea 16 offset 6\nrule 2001:db8:100::/40 198.51.100.0/24 ea 8 offset 4\nrule 2001:db8:200::/40 203.0.113.0/25 ea 0 offset 0\n"
	textX = "mode 464xlat\nprefix 64:ff9b::/96\n"
	headE = "mode map-e\nrelay ::1\n"
	oneE  = headE + "rule 2001:db8::/40 192.0.2.0/24 ea 16 offset 6 fmr\n"
)

// P11.2: a text of each mode, with and without the last byte 10, and with other texts of the same addresses.
func TestParse(t *testing.T) {
	for text, want := range map[string]api.RuleSet{textE: domainE(t), textT: domainT(t), textX: domainX(t)} {
		good(t, text, want)
		good(t, strings.TrimSuffix(text, "\n"), want)
		good(t, text+"\n\n", want)
		good(t, strings.ReplaceAll(text, "db8", "0DB8"), want)
		good(t, strings.ReplaceAll(text, "::1\n", ":0::0.0.0.1\n"), want)
	}
	s := domainE(t)
	s.Relay, s.Rules = six(t, "::1"), s.Rules[:1]
	s.Rules[0].FMR = true
	good(t, oneE, s)
}

// P11.2: empty lines, blanks, tabs and remarks count for nothing.
func TestBlanks(t *testing.T) {
	want := domainE(t)
	for _, gap := range []string{"  ", "\t", " \t", "\t \t\t ", strings.Repeat(" ", 300)} {
		good(t, strings.ReplaceAll(textE, " ", gap), want)
		good(t, strings.ReplaceAll(textE, "\n", gap+"\n"), want)
		good(t, gap+strings.ReplaceAll(textE, "\n", "\n"+gap), want)
		good(t, strings.ReplaceAll(textE, "\n", "\n"+gap+"\n\n"), want)
	}
	for _, remark := range []string{"#", " #", "\t#", "# a b", "#rule", "##", " # \xff\xfe é € \x00 \r", "#" + strings.Repeat("x ", 99)} {
		good(t, strings.ReplaceAll(textE, "\n", remark+"\n"), want)
		good(t, strings.ReplaceAll(textE, "\n", "\n"+remark+"\n"), want)
		good(t, remark+"\n"+textE, want)
		good(t, textE+remark, want)
	}
}

// P11.2: # at every place of a text.
func TestRemarks(t *testing.T) {
	for _, text := range []string{textE, textT, textX, oneE} {
		for i := range len(text) + 1 {
			holdParse(t, text[:i]+"#"+text[i:])
			holdParse(t, text[:i]+" # "+text[i:])
			if i < len(text) {
				holdParse(t, text[:i]+"#"+text[i+1:])
			}
		}
	}
	wantParse(t, "mode#map-e\n", 1, 5, api.ErrLine)
	wantParse(t, "mode # map-e\n", 1, 5, api.ErrLine)
	wantParse(t, "mode map-#e\n", 1, 6, api.ErrLine)
	wantParse(t, headE+"rule 2001:db8::/40#\n", 3, 19, api.ErrLine)
	wantParse(t, headE+"rule 2001:db8::/#40 192.0.2.0/24\n", 3, 6, api.ErrText)
}

// P11.2: lines that end too early, at the column behind the last word, whatever stands behind it.
func TestTooEarly(t *testing.T) {
	for _, full := range []struct {
		ahead, line string
		least       int // words without which it is none
	}{{"", "mode map-e", 2}, {"", "mode 464xlat", 2}, {"mode map-e\n", "relay 2001:db8:ffff::1", 2}, {"mode map-t\n", "prefix 64:ff9b::/96", 2}, {"mode 464xlat\n", "prefix 64:ff9b::/96", 2}, {headE, "rule 2001:db8::/40 192.0.2.0/24 ea 16 offset 6 fmr", 7}, {oneE, "rule 2002:db8::/40 192.0.3.0/24 ea 16 offset 6 fmr", 7}, {textX, "rule 2002:db8::/40 192.0.3.0/24 ea 16 offset 6 fmr", 7}} {
		words := strings.Fields(full.line)
		at := 1 + strings.Count(full.ahead, "\n")
		for n := 1; n < full.least; n++ {
			short := strings.Join(words[:n], " ")
			for _, tail := range []string{"", "\n", " \n", "\t\t", "#\n", "  # x y z\n", "\n" + full.line} {
				wantParse(t, full.ahead+short+tail, at, len(short)+1, api.ErrLine)
				wantParse(t, full.ahead+" \t"+short+tail, at, len(short)+3, api.ErrLine)
				wantParse(t, full.ahead+"\n\n"+short+tail, at+2, len(short)+1, api.ErrLine)
			}
		}
		for _, more := range []string{"x", "fmr", "0", "rule", "\xff", "é"} {
			if full.least < len(words) && more == "fmr" {
				continue // twice: below
			}
			wantParse(t, full.ahead+full.line+" "+more+"\n", at, len(full.line)+2, api.ErrLine)
			wantParse(t, full.ahead+full.line+"   "+more+" y # z\n", at, len(full.line)+4, api.ErrLine)
		}
	}
	wantParse(t, headE+"rule 2001:db8::/40 192.0.2.0/24 ea 16 offset 6 fmr fmr", 3, 52, api.ErrLine)
	wantParse(t, headE+"rule 2001:db8::/40 192.0.2.0/24 ea 16 offset 6 rule", 3, 48, api.ErrLine)
	wantParse(t, headE+"rule 2001:db8::/40 192.0.2.0/24 ea 16 offset 6 x fmr", 3, 48, api.ErrLine)
}

// P11.2: a wrong word at each place is told at its first byte, ahead of all that stands behind.
func TestWrongWord(t *testing.T) {
	const line = "rule 2001:db8::/40 192.0.2.0/24 ea 16 offset 6 fmr"
	kinds := []api.Errno{api.ErrLine, api.ErrText, api.ErrText, api.ErrLine, api.ErrLine, api.ErrLine, api.ErrLine, api.ErrLine}
	for i, e := range kinds {
		for _, wrong := range []string{"x", "Rule", "RULE", "rules", "rul", "é", "\xff", "::/129", "1.2.3.4/33", "-1", "0x1", "EA", "Offset", "FMR", "fm", "\r", "\x00", "\u00a0", "\u2028", "\v", "\f"} {
			for _, tail := range []string{"", " too many words of this one, by far", "#"} {
				words := strings.Fields(line)
				ahead := strings.Join(words[:i], " ") + " "
				words[i] = wrong
				text := strings.TrimLeft(ahead+strings.Join(words[i:], " "), " ")
				col := len(ahead) + 1
				if i == 0 {
					col = 1
				}
				wantParse(t, headE+text+tail, 3, col, e)
				wantParse(t, headE+text+tail+"\nmode\n", 3, col, e)
			}
		}
	}
	for _, m := range []string{"map-x", "map-E", "MAP-E", "map", "map-", "map-ee", "464XLAT", "464xla", "xlat", "1", "0", "\xff"} {
		wantParse(t, "mode "+m+"\nrelay ::1\n", 1, 6, api.ErrLine)
		wantParse(t, " mode  "+m+" "+m, 1, 8, api.ErrLine)
	}
	wantParse(t, "mode map-e\r\nrelay ::1\r\n", 1, 6, api.ErrLine)
	wantParse(t, "mode map-e\rrelay ::1\r", 1, 6, api.ErrLine)
}

// P11.2: the first two lines wanting, twice, in the other order, or of another mode.
func TestHeads(t *testing.T) {
	const rule = "rule 2001:db8::/40 192.0.2.0/24 ea 16 offset 6\n"
	for _, none := range []string{"", "\n", " ", "\t\n \n", "#", "# mode map-e\n#relay ::1\n"} {
		wantParse(t, none, 0, 0, api.ErrLine)
		wantParse(t, none+"\nmode map-e\n", 0, 0, api.ErrLine)
		wantParse(t, none+"\nmode 464xlat", 0, 0, api.ErrLine)
	}
	wantParse(t, "relay ::1\nmode map-e\n"+rule, 1, 1, api.ErrLine)
	wantParse(t, "relay ::1\n"+rule, 1, 1, api.ErrLine)
	wantParse(t, "prefix 64:ff9b::/96\nmode 464xlat\n", 1, 1, api.ErrLine)
	wantParse(t, rule, 1, 1, api.ErrLine)
	wantParse(t, "mode map-e\n"+rule, 2, 1, api.ErrLine)
	wantParse(t, "mode map-e\n\n  "+rule, 3, 3, api.ErrLine)
	wantParse(t, "mode map-e\nmode map-e\nrelay ::1\n"+rule, 2, 1, api.ErrLine)
	wantParse(t, headE+"mode map-e\n"+rule, 3, 1, api.ErrLine)
	wantParse(t, headE+"relay ::1\n"+rule, 3, 1, api.ErrLine)
	wantParse(t, oneE+"relay ::1\n", 4, 1, api.ErrLine)
	wantParse(t, textX+"prefix 64:ff9b::/96\n", 3, 1, api.ErrLine)
	wantParse(t, "mode map-e\nprefix 64:ff9b::/96\n"+rule, 2, 1, api.ErrLine)
	wantParse(t, "mode map-t\nrelay ::1\n"+rule, 2, 1, api.ErrLine)
	wantParse(t, "mode 464xlat\nrelay ::1\n", 2, 1, api.ErrLine)
	wantParse(t, "mode map-t relay ::1\n", 1, 12, api.ErrLine)
	wantParse(t, headE, 0, 0, api.ErrDomain)
	wantParse(t, "mode map-t\nprefix 64:ff9b::/96", 0, 0, api.ErrDomain)
	wantParse(t, "\xef\xbb\xbf"+textE, 1, 1, api.ErrLine)
}

// P11.2: numbers have one to three digits without a zero ahead.
func TestNumberWords(t *testing.T) {
	for _, w := range []string{"00", "01", "007", "000", "1000", "9999", "0999", "10000", "+1", "-1", "-0", "+0", "1.0", "1e1", "0x1", "1_0", "a", "1a", "a1", "١", "²", "１", "\xff", "1\xff", "99999999999999999999", "18446744073709551617", "4294967296", "ea", "-"} {
		wantParse(t, headE+"rule 2001:db8::/40 192.0.2.0/24 ea "+w+" offset 6\n", 3, 36, api.ErrLine)
		wantParse(t, headE+"rule 2001:db8::/40 192.0.2.0/24 ea 16 offset "+w+" fmr\n", 3, 46, api.ErrLine)
	}
	for n := range 1000 {
		w := strconv.Itoa(n)
		e := holdParse(t, headE+"rule 2001:db8::/40 192.0.2.0/24 ea "+w+" offset 0\n")
		if want := n <= 24; want != (e == api.OK) || !want && e != api.ErrRule {
			t.Errorf("ea %d: %d", n, e)
		}
		e = holdParse(t, headE+"rule 2001:db8::/40 192.0.2.0/24 ea 8 offset "+w+"\n")
		if want := n <= 15; want != (e == api.OK) || !want && e != api.ErrRule {
			t.Errorf("offset %d: %d", n, e)
		}
	}
}

// P11.2: addresses and prefixes that are none, at the word's first byte.
func TestTexts(t *testing.T) {
	for w, e := range map[string]api.Errno{"x": 20, ":": 20, "1::2::3": 20, "::1/128": 20, "1.2.3.4": 20, "::%1": 20, "2001:db8::1,": 20, "[::1]": 20, "\xff::": 20} {
		wantParse(t, "mode map-e\n  relay\t "+w, 2, 10, e)
		wantParse(t, "mode map-e\nrelay "+w+" more", 2, 7, e)
	}
	for w, e := range map[string]api.Errno{"::": 20, "::/": 20, "::/129": 20, "::/01": 20, "64:ff9b::1/96": 21, "2001:db8::/28": 21, "::1/0": 21, "1.2.3.4/8": 20} {
		wantParse(t, "mode map-t\nprefix "+w, 2, 8, e)
		wantParse(t, "mode 464xlat\n prefix "+w+" x", 2, 9, e)
		wantParse(t, headE+"rule "+w+" x", 3, 6, e)
	}
	for w, e := range map[string]api.Errno{"1.2.3.4": 20, "1.2.3.4/33": 20, "1.2.3.4/31": 0, "1.2.3.4/29": 21, "10.1.0.0/8": 21, "010.0.0.0/8": 20, "::/0": 20, "0.0.0.0/": 20, "/8": 20} {
		line, col, more := 3, 20, e
		if e == api.OK {
			col, more = 20+len(w), api.ErrLine
		}
		wantParse(t, headE+"rule 2001:db8::/40 "+w, line, col, more)
	}
}

// P11.2: columns are counted by bytes.
func TestColumns(t *testing.T) {
	for _, w := range []string{"é", "€", "𐍈", "\xff", "\xc3", "\xe2\x82", "\xed\xa0\x80", "日本", "\xf0\x9f"} {
		wantParse(t, "mode"+w+" map-e", 1, 1, api.ErrLine)
		wantParse(t, "mode map-e "+w+" x", 1, 12, api.ErrLine)
		wantParse(t, "mode map-e\nrelay ::1\nrule 2001:db8::/40 192.0.2.0/24 ea 1"+w+" offset 6", 3, 36, api.ErrLine)
		wantParse(t, "mode map-e # "+w+"\n# "+w+w+"\n \t relay ::1 "+w, 3, 14, api.ErrLine)
		wantParse(t, "mode map-e\nrelay ::1"+w, 2, 7, api.ErrText)
		wantParse(t, "mode map-e\nrelay"+w+" ::1", 2, 1, api.ErrLine)
	}
	// a word of several bytes a letter ahead of one that is wanting
	wantParse(t, "mode é", 1, 6, api.ErrLine)
	wantParse(t, "mode map-e\nrelay ::1\nrule 2001:db8::/40 192.0.2.0/24 ea 1 é", 3, 38, api.ErrLine)
}

// P11.2: rules that may not be and rules that meet, at their lines.
func TestRuleLines(t *testing.T) {
	for ahead, lines := range map[string]int{"": 0, "\n": 1, "\n\n# x\n \t\n": 4} {
		wantParse(t, headE+ahead+"  rule 2001:db8::/40 192.0.2.0/24 ea 25 offset 6", 3+lines, 1, api.ErrRule)
		wantParse(t, oneE+ahead+"\trule 2002::/40 192.0.3.0/24 ea 16 offset 16", 4+lines, 1, api.ErrRule)
		wantParse(t, oneE+ahead+" rule 2001:db8:1::/48 192.0.3.0/24 ea 16 offset 6", 4+lines, 1, api.ErrMeet)
		wantParse(t, oneE+ahead+" rule 2002::/40 192.0.2.1/32 ea 0 offset 6", 4+lines, 1, api.ErrMeet)
		wantParse(t, oneE+ahead+" rule ::/0 10.0.0.0/8 ea 0 offset 6", 4+lines, 1, api.ErrMeet)
		wantParse(t, textX+ahead+" rule 2002::/40 192.0.2.1/32 ea 0 offset 6\n", 0, 0, api.ErrDomain)
		wantParse(t, textX+ahead+" rule 2002::/65 192.0.2.1/32 ea 0 offset 6\n", 3+lines, 1, api.ErrRule)
		wantParse(t, "mode map-e\n"+ahead+"relay 2001:db8::\n"+strings.SplitAfter(oneE, "\n")[2], 0, 0, api.ErrDomain)
	}
	// a line that is none is told ahead of a rule ahead of it that may not be
	wantParse(t, headE+"rule ::/65 0.0.0.0/0 ea 0 offset 0\nrule", 4, 5, api.ErrLine)
	// and a later rule that may not be ahead of an earlier one that meets
	wantParse(t, oneE+oneE[len(headE):]+"rule ::/65 0.0.0.0/0 ea 0 offset 0\n", 5, 1, api.ErrRule)
	wantParse(t, oneE+oneE[len(headE):]+"rule ::/64 0.0.0.0/0 ea 0 offset 0\n", 4, 1, api.ErrMeet)
}

// P11.2: 64 rules and 65; none of them is told a fault of another kind.
func TestManyLines(t *testing.T) {
	s := domainE(t)
	s.Relay[0] ^= 0x40
	s.Rules = many(64)
	text, _, e := rules.Print(s)
	if e != api.OK || strings.Count(text, "\n") != 66 {
		t.Fatal(e, text)
	}
	good(t, text, s)
	wantParse(t, text+"rule 2002::/40 192.0.2.0/24 ea 16 offset 6", 0, 0, api.ErrMany)
	wantParse(t, text+"rule ::/65 0.0.0.0/0 ea 0 offset 0", 0, 0, api.ErrMany)
	wantParse(t, text+"rule ::/65 0.0.0.0/0 ea 0 offset 0\nrule x", 68, 6, api.ErrText)
	wantParse(t, headE+strings.Repeat("rule ::/0 0.0.0.0/0 ea 0 offset 0\n", 30000), 0, 0, api.ErrMany)
	wantParse(t, headE+strings.Repeat("rule ::/0 0.0.0.0/0 ea 0 offset 0\n", 30000)+"\n rule", 30004, 6, api.ErrLine)
}

// P11.2: texts of 2^20 bytes, and of one more.
func TestLong(t *testing.T) {
	const most = 1 << 20
	for _, fill := range []string{" ", "\n", "\t", "# x", "#\n", "\xff", "x", "x "} {
		pad := strings.Repeat(fill, most/len(fill)+1)
		if fill[0] == 'x' || fill == "\xff" {
			pad = "#" + pad
		}
		text := textE + pad[:most-len(textE)]
		good(t, text, domainE(t))
		wantParse(t, text+" ", 0, 0, api.ErrLong)
		wantParse(t, text+"\n", 0, 0, api.ErrLong)
	}
	wantParse(t, strings.Repeat("\n", most-1)+"x", most, 1, api.ErrLine)
	wantParse(t, strings.Repeat(" ", most-1)+"x", 1, most, api.ErrLine)
	wantParse(t, "mode"+strings.Repeat(" ", most-4), 1, 5, api.ErrLine)
	wantParse(t, "mode map-e"+strings.Repeat(" x", most/2-5), 1, 12, api.ErrLine)
	wantParse(t, strings.Repeat("x", most), 1, 1, api.ErrLine)
	wantParse(t, "mode map-e\nrelay "+strings.Repeat(":", most-17), 2, 7, api.ErrText)
	wantParse(t, headE+"rule ::/0 0.0.0.0/0 ea "+strings.Repeat("9", most-100), 3, 24, api.ErrLine)
	for _, x := range []string{"x", "\n", "\xff"} {
		wantParse(t, strings.Repeat(x, most+1), 0, 0, api.ErrLong)
	}
	wantParse(t, strings.Repeat("x", 3*most), 0, 0, api.ErrLong)
}

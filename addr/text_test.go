package addr_test

import (
	"net/netip"
	"strconv"
	"strings"
	"testing"

	"ferryman/addr"
	"ferryman/api"
)

// The texts of another library are the judge of which texts there are. It knows zones, the document does not.
func is4(s string) bool {
	a, err := netip.ParseAddr(s)
	return err == nil && a.Is4()
}

func is6(s string) bool {
	a, err := netip.ParseAddr(s)
	return err == nil && a.Is6() && a.Zone() == "" && !strings.Contains(s, "%")
}

// ends4 are ends of which one makes a text of each beginning of one.
func ends4() []string {
	var out []string
	for k := range 4 {
		dots := strings.Repeat(".0", k)
		out = append(out, dots, "0"+dots)
	}
	return out
}

// ends6 are ends of which one makes a text of each beginning of one.
func ends6() []string {
	out := append([]string{":"}, ends4()...)
	for k := range 9 {
		groups := strings.Repeat(":0", k)
		out = append(out, groups, "0"+groups, groups+"::", ":"+groups)
	}
	return out
}

// begins tells whether a text goes on, by one of the ends, as one that is.
func begins(s string, ends []string, is func(string) bool) bool {
	for _, end := range ends {
		if is(s + end) {
			return true
		}
	}
	return false
}

// where is the place at which a text is none, by the document's words.
func where(s string, ends []string, is func(string) bool) (int, bool) {
	if is(s) {
		return 0, true
	}
	for i := range len(s) {
		if !begins(s[:i+1], ends, is) {
			return i, false
		}
	}
	return len(s), false
}

func hold4(t *testing.T, s string) {
	t.Helper()
	want, is := where(s, ends4(), is4)
	a, at, e := addr.Parse4(s)
	if !is {
		if a != (api.Addr4{}) || at != want || e != api.ErrText {
			t.Fatalf("%q: %v, %d, %v; want %d", s, a, at, e, want)
		}
		return
	}
	if a != api.Addr4(netip.MustParseAddr(s).As4()) || at != 0 || e != api.OK {
		t.Fatalf("%q: %v, %d, %v", s, a, at, e)
	}
}

func hold6(t *testing.T, s string) {
	t.Helper()
	want, is := where(s, ends6(), is6)
	a, at, e := addr.Parse6(s)
	if !is {
		if a != (api.Addr6{}) || at != want || e != api.ErrText {
			t.Fatalf("%q: %v, %d, %v; want %d", s, a, at, e, want)
		}
		return
	}
	if a != api.Addr6(netip.MustParseAddr(s).As16()) || at != 0 || e != api.OK {
		t.Fatalf("%q: %v, %d, %v", s, a, at, e)
	}
}

// all tells every text of some letters up to a length.
func all(letters string, most int, tell func(string)) {
	tell("")
	rows := []string{""}
	for range most {
		var next []string
		for _, row := range rows {
			for _, r := range letters {
				tell(row + string(r))
				next = append(next, row+string(r))
			}
		}
		rows = next
	}
}

type fault struct {
	s  string
	at int
}

// P2.1: the edges by name.
func TestParse4(t *testing.T) {
	for s, want := range map[string]api.Addr4{
		"0.0.0.0":         {},
		"255.255.255.255": {255, 255, 255, 255},
		"192.0.2.1":       {192, 0, 2, 1},
		"1.20.100.0":      {1, 20, 100, 0},
		"9.99.199.249":    {9, 99, 199, 249},
	} {
		if a, at, e := addr.Parse4(s); a != want || at != 0 || e != api.OK {
			t.Errorf("%q: %v, %d, %v", s, a, at, e)
		}
	}
	for _, f := range []fault{
		{"", 0}, {"1", 1}, {"1.", 2}, {"1.2", 3}, {"1.2.", 4}, {"1.2.3", 5}, {"1.2.3.", 6},
		{"256.0.0.0", 2}, {"0.256.0.0", 4}, {"10.0.0.256", 9}, {"260.0.0.0", 2}, {"300.0.0.0", 2}, {"1000.0.0.0", 3}, {"0.0.0.99999999999999999999", 8},
		{"00.0.0.0", 1}, {"01.0.0.0", 1}, {"1.02.3.4", 3}, {"1.2.3.00", 7},
		{".1.2.3", 0}, {"1..2.3", 2}, {"1.2.3.4.", 7}, {"1.2.3.4.5", 7},
		{" 1.2.3.4", 0}, {"1.2.3.4 ", 7}, {"1.2.3.4\n", 7}, {"1.2.3.4\x00", 7}, {"+1.2.3.4", 0}, {"1.-2.3.4", 2}, {"1.2.3.a", 6}, {"1.2.3.4/8", 7},
		{"1.2.3.٣", 6}, {"1.2.\xff.4", 4}, {"１.2.3.4", 0}, {"1.2.3.4é", 7}, {"1:2", 1},
	} {
		if a, at, e := addr.Parse4(f.s); a != (api.Addr4{}) || at != f.at || e != api.ErrText {
			t.Errorf("%q: %v, %d, %v; want %d", f.s, a, at, e, f.at)
		}
	}
}

// P2.1.
func TestParse6(t *testing.T) {
	for s, want := range map[string]api.Addr6{
		"::":                            {},
		"::1":                           {15: 1},
		"1::":                           {1: 1},
		"2001:DB8::1":                   {0x20, 1, 0x0d, 0xb8, 15: 1},
		"2001:0db8:0000:0:00:000:0:1":   {0x20, 1, 0x0d, 0xb8, 15: 1},
		"abcd:EF01:aBcD:Ef01:0:f:F:9":   {0xab, 0xcd, 0xef, 1, 0xab, 0xcd, 0xef, 1, 0, 0, 0, 15, 0, 15, 0, 9},
		"::2:3:4:5:6:7:8":               {3: 2, 5: 3, 7: 4, 9: 5, 11: 6, 13: 7, 15: 8},
		"1:2:3:4:5:6:7::":               {1: 1, 3: 2, 5: 3, 7: 4, 9: 5, 11: 6, 13: 7},
		"1:2:3::5:6:7:8":                {1: 1, 3: 2, 5: 3, 9: 5, 11: 6, 13: 7, 15: 8},
		"::ffff:192.0.2.1":              {10: 0xff, 11: 0xff, 12: 192, 14: 2, 15: 1},
		"::ffff:c000:201":               {10: 0xff, 11: 0xff, 12: 192, 14: 2, 15: 1},
		"::255.255.255.255":             {12: 255, 13: 255, 14: 255, 15: 255},
		"1:2:3:4:5:6:7.8.9.10":          {1: 1, 3: 2, 5: 3, 7: 4, 9: 5, 11: 6, 12: 7, 13: 8, 14: 9, 15: 10},
		"1:2:3:4:5::7.8.9.10":           {1: 1, 3: 2, 5: 3, 7: 4, 9: 5, 12: 7, 13: 8, 14: 9, 15: 10},
		"::2:3:4:5:6:7.8.9.10":          {3: 2, 5: 3, 7: 4, 9: 5, 11: 6, 12: 7, 13: 8, 14: 9, 15: 10},
		"1::0.0.0.0":                    {1: 1},
		"0:0:0:0:0:0:0:0":               {},
		"ffff:ffff:ffff:ffff::ffff:1:0": {255, 255, 255, 255, 255, 255, 255, 255, 0, 0, 255, 255, 0, 1, 0, 0},
	} {
		if a, at, e := addr.Parse6(s); a != want || at != 0 || e != api.OK {
			t.Errorf("%q: %v, %d, %v", s, a, at, e)
		}
	}
	for _, f := range []fault{
		{"", 0}, {":", 1}, {":1", 1}, {"1", 1}, {"1:", 2}, {"1:2:3:4:5:6:7", 13}, {"1:2:3:4:5:6:7:", 14}, {"1::2:", 5}, {":::", 2}, {"1:::2", 3},
		{"1::2::3", 5}, {"::1::", 4}, {"::1:2:3:4:5:6:7:", 15}, {"1::2:3:4:5:6:7:8", 14}, {"1:2:3:4:5:6:7::8", 15}, {"1:2:3:4:5:6:7:::", 15},
		{"1:2:3:4:5:6:7:8:9", 15}, {"1:2:3:4:5:6:7:8::", 15}, {"1:2:3:4:5:6:7:8 ", 15},
		{"12345::", 4}, {"::00001", 6}, {"g::", 0}, {"1:g", 2}, {"::G", 2},
		{"1:2:3:4:5:6:7:1.2.3.4", 15}, {"1:2:3:4:5:1.2.3.4", 11}, {"1.2.3.4", 1}, {"1.2.3.4::", 1}, {"1:2:3:4:5:6::1.2.3.4", 14},
		{"::1.2.3", 7}, {"::1.2.3.", 8}, {"::1.", 4}, {"::1.2.3.4.", 9}, {"::1.2.3.4:", 9}, {"::1.2.3.4::", 9}, {"::1.2.3.256", 10}, {"::256.0.0.1", 5}, {"::01.2.3.4", 4}, {"::a.2.3.4", 3}, {"::1a.2.3.4", 4}, {"::1.a", 4}, {"::1234.1.1.1", 6}, {"::.1", 2}, {"1:2:3:4:5:6:.1", 12}, {"::1..2", 4},
		{" ::", 0}, {":: ", 2}, {"fe80::1%eth0", 7}, {"::/0", 2}, {"[::]", 0}, {"::\xff", 2}, {"::é", 2}, {"٣::", 0}, {"-1::", 0},
	} {
		if a, at, e := addr.Parse6(f.s); a != (api.Addr6{}) || at != f.at || e != api.ErrText {
			t.Errorf("%q: %v, %d, %v; want %d", f.s, a, at, e, f.at)
		}
	}
}

// P2.1: every short text of the letters that play a part.
func TestShortTexts(t *testing.T) {
	all("0125.x", 6, func(s string) {
		hold4(t, s)
		hold4(t, s+".0.0")
	})
	all("0f2:.x", 5, func(s string) {
		hold6(t, s)
		hold6(t, "1:2:3:4:5:6"+s)
		hold6(t, "1:2:3:4:5:"+s)
		hold6(t, "::1:2:3:4:5"+s)
	})
}

// P2.1: longer ones, of pieces.
func TestRandomTexts(t *testing.T) {
	d := dice()
	pieces := []string{":", ":", ":", "::", "0", "1", "ab", "F00d", "12345", ".", "25", "255", "256", "0.0.0.0", ":1:2:3", "g", "/", " "}
	for range 30000 {
		var s strings.Builder
		for range d.IntN(18) {
			s.WriteString(pieces[d.IntN(len(pieces))])
		}
		hold4(t, s.String())
		hold6(t, s.String())
	}
}

// Texts that go on for long are answered like others.
func TestLongTexts(t *testing.T) {
	for _, s := range []string{strings.Repeat("1", 1<<20), strings.Repeat("0", 1<<20), strings.Repeat(":", 1<<20), strings.Repeat("1:", 1<<19), strings.Repeat("1.", 1<<19), strings.Repeat("é", 1<<19)} {
		hold4(t, s)
		hold6(t, s)
		if _, at, e := addr.Prefix4("0.0.0.0/" + s); e != api.ErrText || at > 10 {
			t.Errorf("%q: %d, %v", s[:2], at, e)
		}
		if _, at, e := addr.Prefix6("::/" + s); e != api.ErrText || at > 6 {
			t.Errorf("%q: %d, %v", s[:2], at, e)
		}
	}
}

// P2.2.
func TestText(t *testing.T) {
	for want, a := range map[string]api.Addr4{"0.0.0.0": {}, "255.255.255.255": {255, 255, 255, 255}, "192.0.2.18": {192, 0, 2, 18}, "1.10.100.9": {1, 10, 100, 9}} {
		if s := addr.Text4(a); s != want {
			t.Errorf("%v: %q", a, s)
		}
	}
	for s, want := range map[string]string{
		"0:0:0:0:0:0:0:0":                         "::",
		"0:0:0:0:0:0:0:1":                         "::1",
		"1:0:0:0:0:0:0:0":                         "1::",
		"2001:DB8:0:0:0:0:0:1":                    "2001:db8::1",
		"0:2:3:4:5:6:7:8":                         "0:2:3:4:5:6:7:8",
		"1:2:3:4:5:6:7:0":                         "1:2:3:4:5:6:7:0",
		"1:2:3:0:5:6:7:8":                         "1:2:3:0:5:6:7:8",
		"0:0:3:4:5:6:7:8":                         "::3:4:5:6:7:8",
		"1:2:3:4:5:6:0:0":                         "1:2:3:4:5:6::",
		"1:0:0:4:0:0:7:8":                         "1::4:0:0:7:8",
		"1:0:0:4:0:0:0:8":                         "1:0:0:4::8",
		"0:0:0:4:0:0:0:8":                         "::4:0:0:0:8",
		"0:0:3:4:5:0:0:0":                         "0:0:3:4:5::",
		"0:2:0:0:5:0:7:0":                         "0:2::5:0:7:0",
		"0:0:0:0:0:ffff:1.2.3.4":                  "::ffff:102:304",
		"64:ff9b::192.0.2.33":                     "64:ff9b::c000:221",
		"0001:0020:0300:4000:A::":                 "1:20:300:4000:a::",
		"ABCD:EF01:2345:6789:abcd:ef01:2345:6789": "abcd:ef01:2345:6789:abcd:ef01:2345:6789",
	} {
		a, _, e := addr.Parse6(s)
		if own := addr.Text6(a); own != want || e != api.OK {
			t.Errorf("%q: %q, %v; want %q", s, own, e, want)
		}
	}
}

// few6 is an address with many groups 0, so that there are rows of them.
func few6(next func(int) int) api.Addr6 {
	var a api.Addr6
	for i := range 8 {
		if next(2) == 1 {
			a[2*i], a[2*i+1] = byte(next(256))*byte(next(2)), byte(next(256))
		}
	}
	return a
}

// P2.2, P2.7: there and back, by the own text and by others; the own text is the other library's, but where that has dots.
func TestThereAndBack(t *testing.T) {
	d := dice()
	seen := map[string]api.Addr6{}
	for range 20000 {
		a := few6(d.IntN)
		s := addr.Text6(a)
		if b, at, e := addr.Parse6(s); b != a || at != 0 || e != api.OK {
			t.Fatalf("%v: %q: %v, %d, %v", a, s, b, at, e)
		}
		if other, ok := seen[s]; ok && other != a {
			t.Fatalf("%q: %v and %v", s, a, other)
		}
		seen[s] = a
		other := netip.AddrFrom16(a)
		if !other.Is4In6() && other.String() != s {
			t.Fatalf("%q, not %q", s, other.String())
		}
		for _, same := range []string{other.StringExpanded(), strings.ToUpper(s)} {
			if b, _, e := addr.Parse6(same); !strings.Contains(same, ".") && (e != api.OK || addr.Text6(b) != s) {
				t.Fatalf("%q: %v, %v", same, b, e)
			}
		}
	}
	for range 2000 {
		a := api.Addr4{byte(d.IntN(256)), byte(d.IntN(256)), byte(d.IntN(256)), byte(d.IntN(256))}
		if b, at, e := addr.Parse4(addr.Text4(a)); b != a || at != 0 || e != api.OK {
			t.Fatalf("%v: %v, %d, %v", a, b, at, e)
		}
	}
}

// P2.3.
func TestPrefix4(t *testing.T) {
	for n := range 33 {
		p, _ := addr.Cut4(api.Addr4{255, 255, 255, 255}, n)
		s, e := addr.Say4(p)
		if want := addr.Text4(p.Addr) + "/" + strconv.Itoa(n); s != want || e != api.OK {
			t.Errorf("%v: %q, %v", p, s, e)
		}
		if q, at, e := addr.Prefix4(s); q != p || at != 0 || e != api.OK {
			t.Errorf("%q: %v, %d, %v", s, q, at, e)
		}
		if n == 32 {
			continue
		}
		if q, at, e := addr.Prefix4("255.255.255.255/" + strconv.Itoa(n)); q != (api.Prefix4{}) || at != 15 || e != api.ErrHost {
			t.Errorf("%d: %v, %d, %v", n, q, at, e)
		}
	}
	for _, f := range []fault{
		{"", 0}, {"/", 0}, {"/8", 0}, {"10.0.0/8", 6}, {"10.0.0.0", 8}, {"10.0.0.0/", 9}, {"10.0.0./8", 7}, {"10.0.0.256/8", 9},
		{"10.0.0.0/33", 10}, {"10.0.0.0/40", 10}, {"10.0.0.0/320", 11}, {"10.0.0.0/08", 10}, {"10.0.0.0/00", 10}, {"10.0.0.0/01", 10}, {"10.0.0.0/-1", 9}, {"10.0.0.0/+8", 9}, {"10.0.0.0/8 ", 10}, {"10.0.0.0/8/8", 10}, {"10.0.0.0//8", 9}, {"10.0.0.0 /8", 8}, {"10.0.0.0/a", 9}, {"10.0.0.0/٣", 9}, {"10.0.0.0/8\xff", 10},
		{"10.1.0.0/8x", 10}, {"10.1.0.0/33", 10}, {"10.1.0.0/", 9}, {"::/0", 0},
	} {
		if p, at, e := addr.Prefix4(f.s); p != (api.Prefix4{}) || at != f.at || e != api.ErrText {
			t.Errorf("%q: %v, %d, %v; want %d", f.s, p, at, e, f.at)
		}
	}
	for _, f := range []fault{{"10.1.0.0/8", 8}, {"0.0.0.1/0", 7}, {"128.0.0.0/0", 9}, {"10.0.0.1/31", 8}} {
		if p, at, e := addr.Prefix4(f.s); p != (api.Prefix4{}) || at != f.at || e != api.ErrHost {
			t.Errorf("%q: %v, %d, %v; want %d", f.s, p, at, e, f.at)
		}
	}
	for _, p := range wrong4() {
		if s, e := addr.Say4(p); s != "" || e != api.ErrPrefix {
			t.Errorf("%v: %q, %v", p, s, e)
		}
	}
}

// P2.3.
func TestPrefix6(t *testing.T) {
	all := "ffff:ffff:ffff:ffff:ffff:ffff:ffff:ffff"
	a, _, _ := addr.Parse6(all)
	for n := range 129 {
		p, _ := addr.Cut6(a, n)
		s, e := addr.Say6(p)
		if want := addr.Text6(p.Addr) + "/" + strconv.Itoa(n); s != want || e != api.OK {
			t.Errorf("%v: %q, %v", p, s, e)
		}
		if q, at, e := addr.Prefix6(s); q != p || at != 0 || e != api.OK {
			t.Errorf("%q: %v, %d, %v", s, q, at, e)
		}
		if n == 128 {
			continue
		}
		if q, at, e := addr.Prefix6(all + "/" + strconv.Itoa(n)); q != (api.Prefix6{}) || at != len(all) || e != api.ErrHost {
			t.Errorf("%d: %v, %d, %v", n, q, at, e)
		}
	}
	for _, f := range []fault{
		{"", 0}, {"/", 0}, {"::", 2}, {"::/", 3}, {":/0", 1}, {"1:/0", 2}, {"1:2:3:4:5:6:7/0", 13}, {"::1.2.3/0", 7}, {"1::2:/0", 5},
		{"2001:db8::/129", 13}, {"::/130", 5}, {"::/200", 5}, {"::/1280", 6}, {"::/00", 4}, {"::/064", 4}, {"::/-1", 3}, {"::/64 ", 5}, {"::/64/", 5}, {"::/x", 3}, {"::1/64x", 6}, {"::1/129", 6}, {"1.2.3.4/8", 1},
	} {
		if p, at, e := addr.Prefix6(f.s); p != (api.Prefix6{}) || at != f.at || e != api.ErrText {
			t.Errorf("%q: %v, %d, %v; want %d", f.s, p, at, e, f.at)
		}
	}
	for _, f := range []fault{{"2001:db8::1/64", 11}, {"::1/127", 3}, {"8000::/0", 6}, {"::ffff:1.2.3.4/96", 14}} {
		if p, at, e := addr.Prefix6(f.s); p != (api.Prefix6{}) || at != f.at || e != api.ErrHost {
			t.Errorf("%q: %v, %d, %v; want %d", f.s, p, at, e, f.at)
		}
	}
	p, at, e := addr.Prefix6("::FFFF:192.0.2.0/120")
	if s, f := addr.Say6(p); s != "::ffff:c000:200/120" || at != 0 || e != api.OK || f != api.OK {
		t.Errorf("%q, %d, %v, %v", s, at, e, f)
	}
	for _, p := range wrong6() {
		if s, e := addr.Say6(p); s != "" || e != api.ErrPrefix {
			t.Errorf("%v: %q, %v", p, s, e)
		}
	}
}

// P2.3: where a prefix's text is none, at every short end of one.
func TestShortPrefixes(t *testing.T) {
	lengths := func(most int) func(string) bool {
		return func(s string) bool {
			n, err := strconv.Atoi(s)
			return err == nil && n <= most && strconv.Itoa(n) == s
		}
	}
	digits := []string{"", "0", "1"}
	all("01238/x.", 4, func(s string) {
		at, is := where(s, digits, lengths(32))
		p, got, e := addr.Prefix4("0.0.0.0/" + s)
		if is && (p.Len != must(s) || got != 0 || e != api.OK) || !is && (got != 8+at || e != api.ErrText) {
			t.Fatalf("%q: %v, %d, %v", s, p, got, e)
		}
		at, is = where(s, digits, lengths(128))
		q, got, e := addr.Prefix6("::/" + s)
		if is && (q.Len != must(s) || got != 0 || e != api.OK) || !is && (got != 3+at || e != api.ErrText) {
			t.Fatalf("%q: %v, %d, %v", s, q, got, e)
		}
	})
}

func must(s string) int {
	n, _ := strconv.Atoi(s)
	return n
}

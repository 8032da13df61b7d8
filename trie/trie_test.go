package trie_test

import (
	"fmt"
	"math"
	"slices"
	"strings"
	"testing"

	"ferryman/addr"
	"ferryman/api"
	"ferryman/trie"
)

// wrong4 are prefixes that may not be.
func wrong4() []api.Prefix4 {
	out := []api.Prefix4{
		{Len: -1}, {Len: 33}, {Len: 64}, {Len: 128}, {Len: 256}, {Len: -32}, {Len: 1 << 32}, {Len: 1<<32 + 8}, {Len: math.MinInt}, {Len: math.MaxInt},
		{Addr: api.Addr4{10, 0, 0, 1}, Len: 33}, {Addr: api.Addr4{10}, Len: -1}, {Addr: api.Addr4{10}, Len: 1<<32 + 8},
	}
	for n := range 32 { // the first bit behind Len, and the last one
		p := api.Prefix4{Len: n}
		p.Addr[n/8] = 128 >> (n % 8)
		out = append(out, p, api.Prefix4{Addr: api.Addr4{3: 1}, Len: n})
	}
	return out
}

// wrong6 are prefixes that may not be.
func wrong6() []api.Prefix6 {
	out := []api.Prefix6{
		{Len: -1}, {Len: 129}, {Len: 256}, {Len: -128}, {Len: 1 << 32}, {Len: 1<<32 + 8}, {Len: math.MinInt}, {Len: math.MaxInt},
		{Addr: api.Addr6{15: 1}, Len: 129}, {Addr: api.Addr6{0x20}, Len: -1}, {Addr: api.Addr6{0x20}, Len: 1<<32 + 8},
	}
	for n := range 128 {
		p := api.Prefix6{Len: n}
		p.Addr[n/8] = 128 >> (n % 8)
		out = append(out, p, api.Prefix6{Addr: api.Addr6{15: 1}, Len: n})
	}
	return out
}

func pre4(t *testing.T, s string) api.Prefix4 {
	t.Helper()
	p, _, e := addr.Prefix4(s)
	if e != api.OK {
		t.Fatal(s, e)
	}
	return p
}

func pre6(t *testing.T, s string) api.Prefix6 {
	t.Helper()
	p, _, e := addr.Prefix6(s)
	if e != api.OK {
		t.Fatal(s, e)
	}
	return p
}

func at4(t *testing.T, s string) api.Addr4 {
	t.Helper()
	a, _, e := addr.Parse4(s)
	if e != api.OK {
		t.Fatal(s, e)
	}
	return a
}

func at6(t *testing.T, s string) api.Addr6 {
	t.Helper()
	a, _, e := addr.Parse6(s)
	if e != api.OK {
		t.Fatal(s, e)
	}
	return a
}

// table is one of these texts of IPv4 prefixes, with the values 1, 2, 3 ..
func table(t *testing.T, limit int, l ...string) *trie.Table {
	t.Helper()
	x, e := trie.New(limit)
	if e != api.OK {
		t.Fatal(limit, e)
	}
	for i, s := range l {
		if was, e := x.Put4(pre4(t, s), i+1); was || e != api.OK {
			t.Fatal(s, was, e)
		}
	}
	return x
}

// said is a list of entries as a text.
func said(l []api.Entry4) string {
	out := ""
	for _, e := range l {
		s, _ := addr.Say4(e.Prefix)
		out += fmt.Sprintf("%s=%d ", s, e.Value)
	}
	return out
}

// told is all that a table tells, of both kinds, of a few prefixes and addresses: for tables that should be alike.
func told(x *trie.Table, p4, p6 []string) string {
	out := fmt.Sprintln(x.Len(), x.All4(), x.All6())
	for _, p := range p4 {
		v, is, _ := x.Get4(prefix4(p))
		low, has := x.Best4(addr4(p))
		high, also := x.Best4(addr4(pad(four(), p, "1")))
		under, _ := x.Under4(prefix4(p))
		over, _ := x.Over4(prefix4(p))
		out += fmt.Sprintln(v, is, low, has, high, also, under, over)
	}
	for _, p := range p6 {
		v, is, _ := x.Get6(prefix6(p))
		low, has := x.Best6(addr6(p))
		high, also := x.Best6(addr6(pad(six(), p, "1")))
		out += fmt.Sprintln(v, is, low, has, high, also)
	}
	return out
}

// alike holds two tellings against each other; the first line that differs is shown.
func alike(t *testing.T, what, got, want string) {
	t.Helper()
	a, b := strings.Split(got, "\n"), strings.Split(want, "\n")
	for i := range min(len(a), len(b)) {
		if a[i] != b[i] {
			t.Fatalf("%s: line %d: %s; want %s", what, i, a[i], b[i])
		}
	}
	if len(a) != len(b) {
		t.Fatalf("%s: %d lines; want %d", what, len(a), len(b))
	}
}

// The numbers of the errors, and the limit.
func TestNumbers(t *testing.T) {
	got := []api.Errno{api.OK, api.ErrArg, api.ErrMany, api.ErrNil, api.ErrPrefix, api.ErrKey}
	if want := []api.Errno{0, 1, 3, 4, 22, 120}; !slices.Equal(got, want) || api.MaxEntries != 65536 {
		t.Error(got, api.MaxEntries)
	}
}

// P12.1: which limits may be; the table is empty.
func TestNew(t *testing.T) {
	for _, n := range []int{0, 1, 2, 255, 256, 65535, 65536} {
		x, m := both(t, n)
		holdTable(t, x, m)
		holdPrefix(t, x, m, four(), "")
		holdPrefix(t, x, m, six(), "")
	}
	for _, n := range []int{-1, -2, -65536, 65537, 65536 + 256, 1 << 17, 1 << 31, 1 << 32, 1<<32 + 1, -1 << 32, math.MinInt, math.MinInt + 1, math.MaxInt} {
		if x, e := trie.New(n); x != nil || e != api.ErrArg {
			t.Errorf("New of %d: %v, %d", n, x, e)
		}
	}
}

// P12.1: a table with a limit of 0 is a table all the same.
func TestLimitOfNothing(t *testing.T) {
	x, m := both(t, 0)
	for _, k := range kinds() {
		for _, p := range []string{"", "1", "00001010", pad(k, "", "0"), pad(k, "", "1")} {
			if was, e := holdPut(t, x, m, k, p, 1); was || e != api.ErrMany {
				t.Errorf("%q: %v, %d", p, was, e)
			}
			if e := holdDel(t, x, m, k, p); e != api.ErrKey {
				t.Errorf("%q: %d", p, e)
			}
			holdPrefix(t, x, m, k, p)
			holdTable(t, x, m)
		}
	}
}

// Every function of no table: nil, and one that no call made; ErrNil is told ahead of ErrPrefix (rules 1 and 3).
func TestNoTable(t *testing.T) {
	for name, x := range map[string]*trie.Table{"nil": nil, "not made": {}, "new": new(trie.Table)} {
		for range 2 { // what was told to be refused changed nothing
			for _, p := range append([]api.Prefix4{{}, {Addr: api.Addr4{10}, Len: 8}, {Addr: api.Addr4{10, 0, 0, 1}, Len: 32}}, wrong4()...) {
				noTable4(t, name, x, p)
			}
			for _, p := range append([]api.Prefix6{{}, {Addr: api.Addr6{0x20}, Len: 8}, {Addr: api.Addr6{15: 1}, Len: 128}}, wrong6()...) {
				noTable6(t, name, x, p)
			}
			if n, l, m := x.Len(), x.All4(), x.All6(); n != 0 || len(l) != 0 || len(m) != 0 {
				t.Error(name, n, l, m)
			}
		}
	}
}

func noTable4(t *testing.T, name string, x *trie.Table, p api.Prefix4) {
	t.Helper()
	if was, e := x.Put4(p, 7); was || e != api.ErrNil {
		t.Error(name, "Put4", p, was, e)
	}
	if v, is, e := x.Get4(p); v != 0 || is || e != api.ErrNil {
		t.Error(name, "Get4", p, v, is, e)
	}
	if e := x.Del4(p); e != api.ErrNil {
		t.Error(name, "Del4", p, e)
	}
	if b, has := x.Best4(p.Addr); has || b != (api.Entry4{}) {
		t.Error(name, "Best4", p, b, has)
	}
	if l, e := x.Under4(p); len(l) != 0 || e != api.ErrNil {
		t.Error(name, "Under4", p, l, e)
	}
	if l, e := x.Over4(p); len(l) != 0 || e != api.ErrNil {
		t.Error(name, "Over4", p, l, e)
	}
}

func noTable6(t *testing.T, name string, x *trie.Table, p api.Prefix6) {
	t.Helper()
	if was, e := x.Put6(p, 7); was || e != api.ErrNil {
		t.Error(name, "Put6", p, was, e)
	}
	if v, is, e := x.Get6(p); v != 0 || is || e != api.ErrNil {
		t.Error(name, "Get6", p, v, is, e)
	}
	if e := x.Del6(p); e != api.ErrNil {
		t.Error(name, "Del6", p, e)
	}
	if b, has := x.Best6(p.Addr); has || b != (api.Entry6{}) {
		t.Error(name, "Best6", p, b, has)
	}
}

// Prefixes that may not be: ErrPrefix, ahead of ErrMany and ErrKey, whatever the table has; nothing else is told, and nothing changes (rule 2).
func TestWrongPrefixes(t *testing.T) {
	all := table(t, 65536, "0.0.0.0/0", "10.0.0.0/8", "10.1.0.0/16", "10.1.0.1/32")
	full := table(t, 5, "0.0.0.0/0", "10.0.0.0/8", "10.1.0.0/16", "10.1.0.1/32")
	for _, x := range []*trie.Table{table(t, 0), table(t, 1), table(t, 65536), all, full} {
		x.Put6(api.Prefix6{}, 9)
		before := told(x, few("00001010", 2), few("", 3))
		for _, p := range wrong4() {
			wrongPrefix4(t, x, p)
		}
		for _, p := range wrong6() {
			wrongPrefix6(t, x, p)
		}
		alike(t, "behind prefixes that may not be", told(x, few("00001010", 2), few("", 3)), before)
	}
}

func wrongPrefix4(t *testing.T, x *trie.Table, p api.Prefix4) {
	t.Helper()
	if was, e := x.Put4(p, 7); was || e != api.ErrPrefix {
		t.Error("Put4", p, was, e)
	}
	if v, is, e := x.Get4(p); v != 0 || is || e != api.ErrPrefix {
		t.Error("Get4", p, v, is, e)
	}
	if e := x.Del4(p); e != api.ErrPrefix {
		t.Error("Del4", p, e)
	}
	if l, e := x.Under4(p); len(l) != 0 || e != api.ErrPrefix {
		t.Error("Under4", p, l, e)
	}
	if l, e := x.Over4(p); len(l) != 0 || e != api.ErrPrefix {
		t.Error("Over4", p, l, e)
	}
}

func wrongPrefix6(t *testing.T, x *trie.Table, p api.Prefix6) {
	t.Helper()
	if was, e := x.Put6(p, 7); was || e != api.ErrPrefix {
		t.Error("Put6", p, was, e)
	}
	if v, is, e := x.Get6(p); v != 0 || is || e != api.ErrPrefix {
		t.Error("Get6", p, v, is, e)
	}
	if e := x.Del6(p); e != api.ErrPrefix {
		t.Error("Del6", p, e)
	}
}

// P12.1: a table that is full takes a new value of a prefix that is there, and no new prefix of either kind.
func TestFull(t *testing.T) {
	for limit := 1; limit <= 6; limit++ {
		for fours := range limit + 1 {
			x, m := both(t, limit)
			for i := range limit {
				k := six()
				if i < fours {
					k = four()
				}
				if was, e := holdPut(t, x, m, k, few("", 3)[i], i); was || e != api.OK {
					t.Fatal(limit, fours, i, was, e)
				}
			}
			holdFull(t, x, m)
		}
	}
}

// holdFull asks of a full table what it takes, and what behind a Del.
func holdFull(t *testing.T, x *trie.Table, m *plain) {
	t.Helper()
	for _, k := range kinds() {
		for _, p := range append(few("", 3), pad(k, "", "0"), pad(k, "1", "0")) {
			holdPut(t, x, m, k, p, 100+len(p))
			holdPut(t, x, m, k, p, -len(p))
			holdPrefix(t, x, m, k, p)
			holdTable(t, x, m)
		}
	}
	for _, k := range kinds() {
		for _, other := range kinds() {
			for _, gone := range m.all(k) {
				if e := holdDel(t, x, m, k, gone.bits); e != api.OK {
					t.Fatal(gone, e)
				}
				if e := holdDel(t, x, m, k, gone.bits); e != api.ErrKey {
					t.Fatal(gone, e)
				}
				if was, e := holdPut(t, x, m, other, "101101", 5); was || e != api.OK {
					t.Fatal(gone, was, e)
				}
				if was, e := holdPut(t, x, m, other, "101100", 6); was || e != api.ErrMany {
					t.Fatal(gone, was, e)
				}
				holdDel(t, x, m, other, "101101")
				holdPut(t, x, m, k, gone.bits, gone.value)
				holdTable(t, x, m)
			}
		}
	}
}

// P12.1, P12.2: any value, the zero of no entry among them.
func TestValues(t *testing.T) {
	x, m := both(t, 100)
	for _, k := range kinds() {
		for i, v := range []int{0, -1, 1, math.MaxInt, math.MinInt, 1 << 32, -1 << 32, 255, 65536} {
			p := few("0101", 4)[2*i]
			for _, value := range []int{v, 0, v} {
				holdPut(t, x, m, k, p, value)
				if got, is, e := k.get(x, p); got != value || !is || e != api.OK {
					t.Errorf("%q: %d, %v, %d; want %d", p, got, is, e, value)
				}
				holdPrefix(t, x, m, k, p)
			}
		}
	}
	holdTable(t, x, m)
}

// P12.1, P12.4: entries of IPv4 and of IPv6 with the same bits are apart.
func TestKindsApart(t *testing.T) {
	for _, k := range kinds() {
		other := four()
		if k.width == 32 {
			other = six()
		}
		x, m := both(t, 100)
		for i, p := range few("0010", 3) {
			holdPut(t, x, m, k, p, i)
		}
		if l := other.all(x); len(l) != 0 {
			t.Error(k.name, l)
		}
		for _, p := range few("0010", 4) {
			holdPrefix(t, x, m, other, p)
			if e := holdDel(t, x, m, other, p); e != api.ErrKey {
				t.Error(k.name, p, e)
			}
		}
		for i, p := range few("0010", 3) {
			if was, e := holdPut(t, x, m, other, p, -i); was || e != api.OK {
				t.Error(k.name, p, was, e)
			}
		}
		for _, p := range few("0010", 3) {
			holdDel(t, x, m, k, p)
			holdPrefix(t, x, m, other, p)
		}
		holdTable(t, x, m)
	}
}

// P12.2: a prefix that only covers an entry's, or is covered by one, has none.
func TestJustThat(t *testing.T) {
	for _, k := range kinds() {
		whole := pad(k, "0010110", "01")[:k.width]
		for n := 0; n <= k.width; n++ {
			x, m := both(t, 3)
			holdPut(t, x, m, k, whole[:n], 5)
			for i := 0; i <= k.width; i++ {
				if i == n {
					continue
				}
				if v, is, e := k.get(x, whole[:i]); v != 0 || is || e != api.OK {
					t.Fatal(k.name, n, i, v, is, e)
				}
				if e := k.del(x, whole[:i]); e != api.ErrKey {
					t.Fatal(k.name, n, i, e)
				}
			}
			holdTable(t, x, m)
			if v, is, e := k.get(x, whole[:n]); v != 5 || !is || e != api.OK {
				t.Fatal(k.name, n, v, is, e)
			}
			if e := k.del(x, whole[:n]); e != api.OK || x.Len() != 0 || len(k.all(x)) != 0 {
				t.Fatal(k.name, n, e)
			}
		}
	}
}

// P12.3, P12.5: entries of every length, one in the other: with each bit of an address turned, the best one ends ahead of it; where the longest go, the next one is it.
func TestNested(t *testing.T) {
	for _, k := range kinds() {
		x, m := both(t, 200)
		whole := some(dice(), k.width)
		for n := 0; n <= k.width; n++ {
			holdPut(t, x, m, k, whole[:n], n)
		}
		for n := k.width; n >= 0; n-- {
			for i := range k.width {
				a := whole[:i] + string('0'+'1'-whole[i]) + whole[i+1:]
				b, has := k.best(x, a)
				if want := whole[:min(i, n)]; !has || b != (item{want, len(want)}) {
					t.Fatalf("%q of %d: %v, %v", a, n, b, has)
				}
			}
			if b, has := k.best(x, whole); !has || b != (item{whole[:n], n}) {
				t.Fatalf("of %d: %v, %v", n, b, has)
			}
			holdDel(t, x, m, k, whole[:n])
			holdTable(t, x, m)
		}
		if b, has := k.best(x, whole); has || b.value != 0 {
			t.Error(b, has)
		}
	}
}

// P12.3: where there is none, the answer is zero.
func TestNoBest(t *testing.T) {
	x := table(t, 10, "10.0.0.0/8", "192.0.2.1/32")
	x.Put6(pre6(t, "2001:db8::/32"), 7)
	for _, s := range []string{"0.0.0.0", "9.255.255.255", "11.0.0.0", "192.0.2.0", "192.0.2.2", "255.255.255.255", "32.1.13.184"} {
		if b, has := x.Best4(at4(t, s)); has || b != (api.Entry4{}) {
			t.Error(s, b, has)
		}
	}
	for _, s := range []string{"::", "2001:db7:ffff::", "2001:db9::", "ffff::", "a00::", "::ffff:10.0.0.1"} {
		if b, has := x.Best6(at6(t, s)); has || b != (api.Entry6{}) {
			t.Error(s, b, has)
		}
	}
	for s, want := range map[string]api.Entry4{
		"10.0.0.0": {Prefix: pre4(t, "10.0.0.0/8"), Value: 1}, "10.255.255.255": {Prefix: pre4(t, "10.0.0.0/8"), Value: 1}, "192.0.2.1": {Prefix: pre4(t, "192.0.2.1/32"), Value: 2},
	} {
		if b, has := x.Best4(at4(t, s)); !has || b != want {
			t.Error(s, b, has)
		}
	}
	if b, has := x.Best6(at6(t, "2001:db8:ffff::1")); !has || b != (api.Entry6{Prefix: pre6(t, "2001:db8::/32"), Value: 7}) {
		t.Error(b, has)
	}
}

// P12.4: by addresses as bytes without a sign, of alike ones the shorter ahead; Under4 and Over4 of entries' prefixes, others', the shortest and the longest.
func TestLists(t *testing.T) {
	x := table(t, 20, "192.0.2.0/24", "10.1.0.0/16", "10.0.0.0/8", "255.255.255.255/32", "10.0.0.0/16", "0.0.0.0/0", "10.0.0.0/32", "9.0.0.0/8", "128.0.0.0/1", "127.0.0.0/8", "10.0.0.0/9")
	all := "0.0.0.0/0=6 9.0.0.0/8=8 10.0.0.0/8=3 10.0.0.0/9=11 10.0.0.0/16=5 10.0.0.0/32=7 10.1.0.0/16=2 127.0.0.0/8=10 128.0.0.0/1=9 192.0.2.0/24=1 255.255.255.255/32=4 "
	if s := said(x.All4()); s != all {
		t.Error(s)
	}
	for p, want := range map[string][2]string{ // under, over
		"0.0.0.0/0":          {all, "0.0.0.0/0=6 "},
		"10.0.0.0/8":         {"10.0.0.0/8=3 10.0.0.0/9=11 10.0.0.0/16=5 10.0.0.0/32=7 10.1.0.0/16=2 ", "0.0.0.0/0=6 10.0.0.0/8=3 "},
		"10.0.0.0/7":         {"10.0.0.0/8=3 10.0.0.0/9=11 10.0.0.0/16=5 10.0.0.0/32=7 10.1.0.0/16=2 ", "0.0.0.0/0=6 "},
		"8.0.0.0/6":          {"9.0.0.0/8=8 10.0.0.0/8=3 10.0.0.0/9=11 10.0.0.0/16=5 10.0.0.0/32=7 10.1.0.0/16=2 ", "0.0.0.0/0=6 "},
		"10.0.0.0/10":        {"10.0.0.0/16=5 10.0.0.0/32=7 10.1.0.0/16=2 ", "0.0.0.0/0=6 10.0.0.0/8=3 10.0.0.0/9=11 "},
		"10.0.0.0/16":        {"10.0.0.0/16=5 10.0.0.0/32=7 ", "0.0.0.0/0=6 10.0.0.0/8=3 10.0.0.0/9=11 10.0.0.0/16=5 "},
		"10.0.0.0/32":        {"10.0.0.0/32=7 ", "0.0.0.0/0=6 10.0.0.0/8=3 10.0.0.0/9=11 10.0.0.0/16=5 10.0.0.0/32=7 "},
		"10.0.0.1/32":        {"", "0.0.0.0/0=6 10.0.0.0/8=3 10.0.0.0/9=11 10.0.0.0/16=5 "},
		"10.128.0.0/9":       {"", "0.0.0.0/0=6 10.0.0.0/8=3 "},
		"128.0.0.0/1":        {"128.0.0.0/1=9 192.0.2.0/24=1 255.255.255.255/32=4 ", "0.0.0.0/0=6 128.0.0.0/1=9 "},
		"255.255.255.255/32": {"255.255.255.255/32=4 ", "0.0.0.0/0=6 128.0.0.0/1=9 255.255.255.255/32=4 "},
		"0.0.0.0/1":          {"9.0.0.0/8=8 10.0.0.0/8=3 10.0.0.0/9=11 10.0.0.0/16=5 10.0.0.0/32=7 10.1.0.0/16=2 127.0.0.0/8=10 ", "0.0.0.0/0=6 "},
		"0.0.0.0/32":         {"", "0.0.0.0/0=6 "},
		"11.0.0.0/8":         {"", "0.0.0.0/0=6 "},
	} {
		u, e := x.Under4(pre4(t, p))
		o, f := x.Over4(pre4(t, p))
		if said(u) != want[0] || said(o) != want[1] || e != api.OK || f != api.OK {
			t.Errorf("%s: %s, %d; %s, %d", p, said(u), e, said(o), f)
		}
	}
	if e := x.Del4(pre4(t, "0.0.0.0/0")); e != api.OK {
		t.Error(e)
	}
	if o, e := x.Over4(pre4(t, "0.0.0.0/0")); len(o) != 0 || e != api.OK {
		t.Error(o, e)
	}
	if o, e := x.Over4(pre4(t, "11.0.0.0/8")); len(o) != 0 || e != api.OK {
		t.Error(o, e)
	}
}

// P12.4: the order of IPv6 prefixes, and an empty table.
func TestAll6(t *testing.T) {
	x := table(t, 20, "10.0.0.0/8")
	if l := x.All6(); len(l) != 0 {
		t.Error(l)
	}
	l := []string{"::/0", "::/1", "::/128", "::1/128", "0:0:0:1::/64", "2001:db8::/32", "2001:db8::/40", "2001:db8::/128", "2001:db8:100::/40", "7fff::/16", "8000::/1", "8000::/2", "ff00::/8", "ffff:ffff:ffff:ffff:ffff:ffff:ffff:ffff/128"}
	for _, i := range dice().Perm(len(l)) {
		if was, e := x.Put6(pre6(t, l[i]), i); was || e != api.OK {
			t.Error(l[i], was, e)
		}
	}
	for i, e := range x.All6() {
		if s, _ := addr.Say6(e.Prefix); s != l[i] || e.Value != i {
			t.Errorf("%d: %s=%d; want %s", i, s, e.Value, l[i])
		}
	}
	if got := x.All6(); len(got) != len(l) {
		t.Error(got)
	}
	if s := said(x.All4()); s != "10.0.0.0/8=1 " {
		t.Error(s)
	}
	for _, s := range l {
		x.Del6(pre6(t, s))
	}
	x.Del4(pre4(t, "10.0.0.0/8"))
	if a, b := x.All4(), x.All6(); len(a) != 0 || len(b) != 0 || x.Len() != 0 {
		t.Error(a, b, x.Len())
	}
}

// The chapter's example.
func TestExample(t *testing.T) {
	x := table(t, 2, "10.0.0.0/8", "10.1.0.0/16")
	if b, has := x.Best4(at4(t, "10.1.2.3")); !has || b.Value != 2 {
		t.Error(b, has)
	}
	if b, has := x.Best4(at4(t, "10.2.0.0")); !has || b.Value != 1 {
		t.Error(b, has)
	}
	if b, has := x.Best4(at4(t, "11.0.0.0")); has {
		t.Error(b, has)
	}
}

// Rule 4: who has an answer may change it, and add to it, and nobody else sees it.
func TestAnswersAreNew(t *testing.T) {
	x := table(t, 20, "10.0.0.0/8", "10.1.0.0/16", "0.0.0.0/0", "192.0.2.0/24")
	x.Put6(pre6(t, "2001:db8::/32"), 5)
	x.Put6(pre6(t, "::/0"), 6)
	p := pre4(t, "10.1.0.0/16")
	lists := func() [][]api.Entry4 {
		under, _ := x.Under4(pre4(t, "10.0.0.0/8"))
		none, _ := x.Under4(api.Prefix4{})
		over, _ := x.Over4(p)
		return [][]api.Entry4{x.All4(), under, none, over}
	}
	first, kept, sixes, keptSix := lists(), lists(), x.All6(), x.All6()
	before := told(x, few("00001010", 9), few("001", 3))
	want, wantSix := fmt.Sprint(kept), fmt.Sprint(keptSix)
	for _, l := range first {
		for i := range l {
			l[i] = api.Entry4{Prefix: api.Prefix4{Addr: api.Addr4{255}, Len: 99}, Value: -9}
		}
		_ = append(l, api.Entry4{Value: -8})
	}
	for i := range sixes {
		sixes[i] = api.Entry6{Prefix: api.Prefix6{Len: 99}, Value: -9}
	}
	_ = append(sixes, api.Entry6{Value: -8})
	if fmt.Sprint(kept) != want || fmt.Sprint(lists()) != want || fmt.Sprint(keptSix) != wantSix || fmt.Sprint(x.All6()) != wantSix {
		t.Error("an answer shares what another one has")
	}
	alike(t, "behind changed answers", told(x, few("00001010", 9), few("001", 3)), before)
	x.Put4(p, 77)
	x.Del4(pre4(t, "10.0.0.0/8"))
	x.Put6(pre6(t, "::/0"), 78)
	if fmt.Sprint(kept) != want || fmt.Sprint(keptSix) != wantSix {
		t.Error("what was told changes with the table")
	}
}

// Rule 5: two tables know nothing of one another, neither made one by one nor one copied of the other.
func TestApart(t *testing.T) {
	x := table(t, 3, "10.0.0.0/8", "10.1.0.0/16")
	other := table(t, 3, "10.0.0.0/8", "10.1.0.0/16")
	y := *x
	probes := few("00001010", 3)
	before := told(x, probes, nil)
	for _, z := range []*trie.Table{other, &y} {
		z.Put4(pre4(t, "10.0.0.0/8"), 50)
		z.Put4(pre4(t, "10.0.0.0/9"), 51)
		z.Del4(pre4(t, "10.1.0.0/16"))
		z.Put6(api.Prefix6{}, 52)
		if s := said(z.All4()); s != "10.0.0.0/8=50 10.0.0.0/9=51 " || z.Len() != 3 {
			t.Error(s, z.Len())
		}
		alike(t, "behind calls of another one", told(x, probes, nil), before)
	}
}

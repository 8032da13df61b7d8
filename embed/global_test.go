package embed_test

import (
	"testing"

	"ferryman/addr"
	"ferryman/api"
	"ferryman/embed"
)

// span is addresses that are not global, as numbers; before and after: is the address just outside global, if there is one?
type span struct {
	first, last   string
	before, after bool
}

// spans are the chapter's fourteen prefixes, written as their first and last addresses.
var spans = []span{
	{"0.0.0.0", "0.255.255.255", false, true},
	{"10.0.0.0", "10.255.255.255", true, true},
	{"100.64.0.0", "100.127.255.255", true, true},
	{"127.0.0.0", "127.255.255.255", true, true},
	{"169.254.0.0", "169.254.255.255", true, true},
	{"172.16.0.0", "172.31.255.255", true, true},
	{"192.0.0.0", "192.0.0.255", true, true},
	{"192.0.2.0", "192.0.2.255", true, true},
	{"192.168.0.0", "192.168.255.255", true, true},
	{"198.18.0.0", "198.19.255.255", true, true},
	{"198.51.100.0", "198.51.100.255", true, true},
	{"203.0.113.0", "203.0.113.255", true, true},
	{"224.0.0.0", "239.255.255.255", true, false},
	{"240.0.0.0", "255.255.255.255", false, false},
}

func number(a api.Addr4) int64 {
	var n int64
	for _, b := range a {
		n = n*256 + int64(b)
	}
	return n
}

func address(n int64) (a api.Addr4) {
	for i := 3; i >= 0; i-- {
		a[i] = byte(n % 256)
		n /= 256
	}
	return a
}

func numberOf(t *testing.T, s string) int64 {
	t.Helper()
	a, _, e := addr.Parse4(s)
	if e != api.OK {
		t.Fatal(s, e)
	}
	return number(a)
}

// P8.3.
func TestKnown(t *testing.T) {
	p := embed.Known()
	if p != prefix6(t, "64:ff9b::/96") || embed.Check(p) != api.OK {
		t.Errorf("%v, %v", p, embed.Check(p))
	}
}

// P8.3: the first and the last address of each prefix that is not global, and those just outside.
func TestGlobalEdges(t *testing.T) {
	for _, s := range spans {
		first, last := numberOf(t, s.first), numberOf(t, s.last)
		for _, n := range []int64{first, first + 1, (first + last) / 2, last - 1, last} {
			if embed.Global(address(n)) {
				t.Errorf("%v is global", address(n))
			}
		}
		if first > 0 && embed.Global(address(first-1)) != s.before {
			t.Errorf("%v: not %v", address(first-1), s.before)
		}
		if last < 1<<32-1 && embed.Global(address(last+1)) != s.after {
			t.Errorf("%v: not %v", address(last+1), s.after)
		}
	}
}

// P8.3: addresses of every first two bytes, with the third bytes that the chapter's prefixes name, and those beside.
func TestGlobalEverywhere(t *testing.T) {
	type numbers struct{ first, last int64 }
	var all []numbers
	for _, s := range spans {
		all = append(all, numbers{numberOf(t, s.first), numberOf(t, s.last)})
	}
	for high := range 1 << 16 {
		for _, third := range []byte{0, 1, 2, 3, 99, 100, 101, 112, 113, 114, 254, 255} {
			for _, fourth := range []byte{0, 255} {
				a := api.Addr4{byte(high >> 8), byte(high), third, fourth}
				want := true
				for _, s := range all {
					want = want && (number(a) < s.first || number(a) > s.last)
				}
				if embed.Global(a) != want {
					t.Fatalf("%v: not %v", a, want)
				}
			}
		}
	}
}

// P8.1: addresses that are global and that are not, in either place, in the well-known prefix and in others.
func TestPair(t *testing.T) {
	r := dice()
	some := []api.Addr4{{8, 8, 8, 8}, {1, 0, 0, 0}, {192, 0, 1, 1}, {223, 255, 255, 255}, {100, 128, 0, 0}}
	for _, s := range spans {
		some = append(some, address(numberOf(t, s.first)), address(numberOf(t, s.last)))
	}
	for _, p := range prefixes(r) {
		for _, src := range some {
			for _, dst := range some {
				wantFrom, wantTo, wantE := plainPut(p, src), plainPut(p, dst), api.OK
				if p == prefix6(t, "64:ff9b::/96") && !(embed.Global(src) && embed.Global(dst)) {
					wantFrom, wantTo, wantE = api.Addr6{}, api.Addr6{}, api.ErrGlobal
				}
				from, to, e := embed.Pair(p, src, dst)
				if from != wantFrom || to != wantTo || e != wantE {
					t.Fatalf("%v and %v in %v: %v, %v, %v; want %v, %v, %v", src, dst, p, from, to, e, wantFrom, wantTo, wantE)
				}
			}
		}
	}
}

// P8.1: the well-known prefix, told one by one.
func TestPairKnown(t *testing.T) {
	near, wide := api.Addr4{10, 0, 0, 1}, api.Addr4{8, 8, 4, 4}
	for _, c := range []struct {
		src, dst api.Addr4
		want     api.Errno
	}{
		{wide, wide, api.OK},
		{near, wide, api.ErrGlobal},
		{wide, near, api.ErrGlobal},
		{near, near, api.ErrGlobal},
	} {
		from, to, e := embed.Pair(embed.Known(), c.src, c.dst)
		if e != c.want || e != api.OK && (from != api.Addr6{} || to != api.Addr6{}) {
			t.Errorf("%v, %v: %v, %v, %v", c.src, c.dst, from, to, e)
		}
	}
	from, to, _ := embed.Pair(embed.Known(), wide, api.Addr4{1, 2, 3, 4})
	if from != parse6(t, "64:ff9b::808:404") || to != parse6(t, "64:ff9b::102:304") {
		t.Errorf("%v, %v", from, to)
	}
	// Put, Get, Strict and Range ask nothing of the addresses.
	x, e := embed.Put(embed.Known(), near)
	if x != parse6(t, "64:ff9b::a00:1") || e != api.OK {
		t.Errorf("%v, %v", x, e)
	}
	if a, e := embed.Get(embed.Known(), x); a != near || e != api.OK {
		t.Errorf("%v, %v", a, e)
	}
	if a, e := embed.Strict(embed.Known(), x); a != near || e != api.OK {
		t.Errorf("%v, %v", a, e)
	}
	if p, e := embed.Range(embed.Known(), api.Prefix4{Addr: api.Addr4{10}, Len: 8}); p != prefix6(t, "64:ff9b::a00:0/104") || e != api.OK {
		t.Errorf("%v, %v", p, e)
	}
}

// P8.1: a prefix that differs from the well-known one by a bit, or by Len alone, is another one.
func TestPairNearlyKnown(t *testing.T) {
	near := api.Addr4{192, 168, 0, 1}
	known := embed.Known()
	for i := range 128 {
		p := api.Prefix6{Addr: flipped6(known.Addr, i), Len: 96}
		want := api.OK
		if i >= 96 {
			want = api.ErrPrefix
		} else if inGap(i) {
			want = api.ErrU
		}
		if _, _, e := embed.Pair(p, near, near); e != want {
			t.Errorf("bit %d: %v, want %v", i, e, want)
		}
	}
	for n := -1; n <= 129; n++ {
		p := api.Prefix6{Addr: known.Addr, Len: n}
		want := plainCheck(p)
		if n == 96 {
			want = api.ErrGlobal
		}
		if _, _, e := embed.Pair(p, near, near); e != want {
			t.Errorf("Len %d: %v, want %v", n, e, want)
		}
	}
}

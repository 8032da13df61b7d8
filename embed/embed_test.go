package embed_test

import (
	"math"
	"math/rand/v2"
	"testing"

	"ferryman/addr"
	"ferryman/api"
	"ferryman/embed"
)

func dice() *rand.Rand { return rand.New(rand.NewPCG(8, 7)) }

// lens are the lengths that a prefix may have.
var lens = []int{32, 40, 48, 56, 64, 96}

// far are lengths outside everything, some of which are one of lens in fewer bits.
var far = []int{math.MinInt, math.MinInt + 32, -1 << 32, -96, -64, -32, 129, 256 + 32, 256 + 96, 1<<16 + 64, 1<<32 + 32, 1<<32 + 96, math.MaxInt}

// bit is the bit of an address at a place, written apart from the program: by division.
func bit(a []byte, at int) int {
	n := int(a[at/8])
	for range 7 - at%8 {
		n /= 2
	}
	return n % 2
}

func flip(a []byte, at int) { a[at/8] ^= 0x80 >> (at % 8) }

func flipped6(x api.Addr6, at ...int) api.Addr6 {
	for _, i := range at {
		flip(x[:], i)
	}
	return x
}

func some4(r *rand.Rand) (a api.Addr4) {
	for i := range a {
		a[i] = byte(r.Uint32())
	}
	return a
}

func some6(r *rand.Rand) (x api.Addr6) {
	for i := range x {
		x[i] = byte(r.Uint32())
	}
	return x
}

// somePrefix is a prefix of that length in which addresses may stand.
func somePrefix(r *rand.Rand, n int) api.Prefix6 {
	x := some6(r)
	for i := range 128 {
		if (i >= n || inGap(i)) && bit(x[:], i) == 1 {
			flip(x[:], i)
		}
	}
	return api.Prefix6{Addr: x, Len: n}
}

func inGap(i int) bool { return i >= 64 && i <= 71 }

// prefixes are some of each length, among them one of zeros and one with all bits set that may be.
func prefixes(r *rand.Rand) []api.Prefix6 {
	var out []api.Prefix6
	for _, n := range lens {
		var full api.Addr6
		for i := range n {
			if !inGap(i) {
				flip(full[:], i)
			}
		}
		out = append(out, api.Prefix6{Len: n}, api.Prefix6{Addr: full, Len: n}, somePrefix(r, n), somePrefix(r, n))
	}
	return append(out, embed.Known())
}

// plainCheck is Check, bit by bit.
func plainCheck(p api.Prefix6) api.Errno {
	if p.Len < 0 || p.Len > 128 {
		return api.ErrPrefix
	}
	for i := p.Len; i < 128; i++ {
		if bit(p.Addr[:], i) == 1 {
			return api.ErrPrefix
		}
	}
	right := false
	for _, n := range lens {
		right = right || n == p.Len
	}
	if !right {
		return api.ErrLen
	}
	for i := 64; i < 72; i++ {
		if bit(p.Addr[:], i) == 1 {
			return api.ErrU
		}
	}
	return api.OK
}

// plainPlaces are the bits of an IPv6 address, behind a prefix of n bits, that those of an IPv4 address take.
func plainPlaces(n int) []int {
	var out []int
	for i := n; len(out) < 32; i++ {
		if !inGap(i) {
			out = append(out, i)
		}
	}
	return out
}

// plainPut is Put, bit by bit, for a prefix that may be.
func plainPut(p api.Prefix6, a api.Addr4) api.Addr6 {
	x := p.Addr
	for i, at := range plainPlaces(p.Len) {
		if bit(a[:], i) == 1 {
			flip(x[:], at)
		}
	}
	return x
}

// plainGet is Get and Strict, bit by bit.
func plainGet(p api.Prefix6, x api.Addr6, strict bool) (api.Addr4, api.Errno) {
	if e := plainCheck(p); e != api.OK {
		return api.Addr4{}, e
	}
	for i := range p.Len {
		if bit(x[:], i) != bit(p.Addr[:], i) {
			return api.Addr4{}, api.ErrOut
		}
	}
	for i := 64; i < 72; i++ {
		if bit(x[:], i) == 1 {
			return api.Addr4{}, api.ErrU
		}
	}
	places := plainPlaces(p.Len)
	var a api.Addr4
	for i, at := range places {
		if bit(x[:], at) == 1 {
			flip(a[:], i)
		}
	}
	for i := places[31] + 1; strict && i < 128; i++ {
		if bit(x[:], i) == 1 {
			return api.Addr4{}, api.ErrHost
		}
	}
	return a, api.OK
}

// holdGet holds Get and Strict against what is made bit by bit.
func holdGet(t *testing.T, p api.Prefix6, x api.Addr6) {
	t.Helper()
	want, wantE := plainGet(p, x, false)
	if a, e := embed.Get(p, x); a != want || e != wantE {
		t.Fatalf("Get of %v, %v: %v, %v; want %v, %v", p, x, a, e, want, wantE)
	}
	want, wantE = plainGet(p, x, true)
	if a, e := embed.Strict(p, x); a != want || e != wantE {
		t.Fatalf("Strict of %v, %v: %v, %v; want %v, %v", p, x, a, e, want, wantE)
	}
}

// The errors have the numbers that the chapter names.
func TestNumbers(t *testing.T) {
	got := [7]api.Errno{api.OK, api.ErrHost, api.ErrPrefix, api.ErrLen, api.ErrU, api.ErrOut, api.ErrGlobal}
	if got != [7]api.Errno{0, 21, 22, 80, 81, 82, 83} {
		t.Error("other numbers", got)
	}
}

func parse6(t *testing.T, s string) api.Addr6 {
	t.Helper()
	x, _, e := addr.Parse6(s)
	if e != api.OK {
		t.Fatal(s, e)
	}
	return x
}

func prefix6(t *testing.T, s string) api.Prefix6 {
	t.Helper()
	p, _, e := addr.Prefix6(s)
	if e != api.OK {
		t.Fatal(s, e)
	}
	return p
}

// P8.1, P8.2: example 1.
func TestExample(t *testing.T) {
	a := api.Addr4{192, 0, 2, 33}
	for _, c := range [][2]string{
		{"2001:db8::/32", "2001:db8:c000:221::"},
		{"2001:db8:100::/40", "2001:db8:1c0:2:21::"},
		{"2001:db8:122::/48", "2001:db8:122:c000:2:2100::"},
		{"2001:db8:122:300::/56", "2001:db8:122:3c0:0:221::"},
		{"2001:db8:122:344::/64", "2001:db8:122:344:c0:2:2100::"},
		{"2001:db8:122:344::/96", "2001:db8:122:344::c000:221"},
	} {
		p, want := prefix6(t, c[0]), parse6(t, c[1])
		if x, e := embed.Put(p, a); x != want || e != api.OK {
			t.Errorf("%s: %s, %v; want %s", c[0], addr.Text6(x), e, c[1])
		}
		if got, e := embed.Get(p, want); got != a || e != api.OK {
			t.Errorf("Get of %s, %s: %v, %v", c[0], c[1], got, e)
		}
		if got, e := embed.Strict(p, want); got != a || e != api.OK {
			t.Errorf("Strict of %s, %s: %v, %v", c[0], c[1], got, e)
		}
		if from, to, e := embed.Pair(p, a, api.Addr4{}); from != want || to != p.Addr || e != api.OK {
			t.Errorf("Pair in %s: %v, %v, %v", c[0], from, to, e)
		}
	}
}

// Check: every Len, and those far outside; with no bit set, with all bits ahead of Len, and with each one behind it.
func TestCheckLens(t *testing.T) {
	all := append([]int{}, far...)
	for n := -140; n <= 140; n++ {
		all = append(all, n)
	}
	for _, n := range all {
		var full api.Addr6
		for i := range max(min(n, 128), 0) {
			if !inGap(i) {
				flip(full[:], i)
			}
		}
		for _, x := range []api.Addr6{{}, full} {
			want := api.ErrLen
			switch n {
			case 32, 40, 48, 56, 64, 96:
				want = api.OK
			}
			if n < 0 || n > 128 {
				want = api.ErrPrefix
			}
			if e := embed.Check(api.Prefix6{Addr: x, Len: n}); e != want {
				t.Errorf("%v/%d: %v, want %v", x, n, e, want)
			}
			// A bit behind Len is told ahead of a Len that may not be.
			for i := max(min(n, 128), 0); i < 128; i++ {
				if e := embed.Check(api.Prefix6{Addr: flipped6(x, i), Len: n}); e != api.ErrPrefix {
					t.Errorf("%v/%d with bit %d: %v", x, n, i, e)
				}
			}
		}
	}
}

// Check: bits 64 to 71 may be set by a prefix of Len 96 alone; with another Len that has them, Len is told first.
func TestCheckGap(t *testing.T) {
	for i := 64; i < 72; i++ {
		x := flipped6(api.Addr6{0x20, 0x01, 0x0d, 0xb8}, i)
		for n := 0; n <= 128; n++ {
			want := api.ErrLen
			if n <= i {
				want = api.ErrPrefix
			} else if n == 96 {
				want = api.ErrU
			}
			if e := embed.Check(api.Prefix6{Addr: x, Len: n}); e != want {
				t.Errorf("bit %d, Len %d: %v, want %v", i, n, e, want)
			}
		}
		if e := embed.Check(api.Prefix6{Addr: flipped6(x, 96), Len: 96}); e != api.ErrPrefix {
			t.Errorf("bits %d and 96: %v", i, e)
		}
	}
	for _, i := range []int{0, 31, 32, 62, 63, 72, 73, 94, 95} {
		if e := embed.Check(api.Prefix6{Addr: flipped6(api.Addr6{}, i), Len: 96}); e != api.OK {
			t.Errorf("bit %d alone: %v", i, e)
		}
	}
}

// Check: of random prefixes, most of which may not be.
func TestCheckRandom(t *testing.T) {
	r := dice()
	seen := map[api.Errno]int{}
	for range 50000 {
		p := wildPrefix(r)
		want := plainCheck(p)
		if e := embed.Check(p); e != want {
			t.Fatalf("%v: %v, want %v", p, e, want)
		}
		seen[want]++
	}
	if len(seen) != 4 {
		t.Error("some answer was never asked for", seen)
	}
}

// wildPrefix is a prefix that may be or not, of any kind of fault.
func wildPrefix(r *rand.Rand) api.Prefix6 {
	n := r.IntN(140) - 5
	if r.IntN(3) > 0 {
		n = lens[r.IntN(len(lens))]
	}
	p := somePrefix(r, n)
	switch r.IntN(4) {
	case 0:
		flip(p.Addr[:], r.IntN(128))
	case 1:
		flip(p.Addr[:], 64+r.IntN(8))
	case 2:
		p.Addr = some6(r)
	}
	return p
}

// wrong are prefixes in which no address may stand, of each kind of fault and with several at once.
func wrong() map[api.Prefix6]api.Errno {
	return map[api.Prefix6]api.Errno{
		{Len: -1}:                                   api.ErrPrefix,
		{Len: 129}:                                  api.ErrPrefix,
		{Len: math.MinInt}:                          api.ErrPrefix,
		{Len: math.MaxInt}:                          api.ErrPrefix,
		{Addr: api.Addr6{4: 1}, Len: 32}:            api.ErrPrefix,
		{Addr: api.Addr6{15: 1}, Len: 96}:           api.ErrPrefix,
		{Addr: api.Addr6{8: 1}, Len: 64}:            api.ErrPrefix,
		{Addr: api.Addr6{8: 1, 12: 0x80}, Len: 96}:  api.ErrPrefix,
		{Addr: api.Addr6{15: 1}, Len: 33}:           api.ErrPrefix,
		{Len: 0}:                                    api.ErrLen,
		{Len: 31}:                                   api.ErrLen,
		{Len: 72}:                                   api.ErrLen,
		{Len: 128}:                                  api.ErrLen,
		{Addr: api.Addr6{8: 1}, Len: 88}:            api.ErrLen,
		{Addr: api.Addr6{8: 0xff, 15: 1}, Len: 128}: api.ErrLen,
		{Addr: api.Addr6{8: 1}, Len: 96}:            api.ErrU,
		{Addr: api.Addr6{8: 0x80}, Len: 96}:         api.ErrU,
		{Addr: api.Addr6{0, 0x64, 0xff, 0x9b, 8: 1}, Len: 96}: api.ErrU,
	}
}

// Check, ahead of all that has a prefix, whatever else is wrong; rule 2: all other results are zero.
func TestWrongPrefixes(t *testing.T) {
	r := dice()
	for p, want := range wrong() {
		if e := embed.Check(p); e != want {
			t.Errorf("%v: %v, want %v", p, e, want)
		}
		for _, a := range []api.Addr4{{}, {10, 0, 0, 1}, {8, 8, 8, 8}, some4(r)} {
			if x, e := embed.Put(p, a); x != (api.Addr6{}) || e != want {
				t.Errorf("Put in %v: %v, %v; want %v", p, x, e, want)
			}
			if from, to, e := embed.Pair(p, a, some4(r)); from != (api.Addr6{}) || to != (api.Addr6{}) || e != want {
				t.Errorf("Pair in %v: %v, %v, %v; want %v", p, from, to, e, want)
			}
			for _, q := range []api.Prefix4{{Addr: a, Len: 32}, {Addr: a, Len: 33}, {Addr: a, Len: -1}, {Addr: api.Addr4{1, 1, 1, 1}, Len: 8}} {
				if s, e := embed.Range(p, q); s != (api.Prefix6{}) || e != want {
					t.Errorf("Range of %v, %v: %v, %v; want %v", p, q, s, e, want)
				}
			}
		}
		for _, x := range []api.Addr6{{}, p.Addr, some6(r), flipped6(p.Addr, 0), flipped6(p.Addr, 64), flipped6(p.Addr, 127)} {
			if a, e := embed.Get(p, x); a != (api.Addr4{}) || e != want {
				t.Errorf("Get of %v, %v: %v, %v; want %v", p, x, a, e, want)
			}
			if a, e := embed.Strict(p, x); a != (api.Addr4{}) || e != want {
				t.Errorf("Strict of %v, %v: %v, %v; want %v", p, x, a, e, want)
			}
		}
	}
}

// P8.1: each bit of an IPv4 address stands where it is to, in prefixes of each length.
func TestPutBits(t *testing.T) {
	r := dice()
	for _, p := range prefixes(r) {
		for _, base := range []api.Addr4{{}, {255, 255, 255, 255}, some4(r)} {
			for i := range 33 {
				a := base
				if i < 32 {
					flip(a[:], i)
				}
				want := plainPut(p, a)
				if x, e := embed.Put(p, a); x != want || e != api.OK {
					t.Fatalf("%v in %v: %v, %v; want %v", a, p, x, e, want)
				}
			}
		}
	}
}

// P8.1: random addresses in random prefixes, which may be or not.
func TestPutRandom(t *testing.T) {
	r := dice()
	for range 50000 {
		p, a := wildPrefix(r), some4(r)
		var want api.Addr6
		wantE := plainCheck(p)
		if wantE == api.OK {
			want = plainPut(p, a)
		}
		if x, e := embed.Put(p, a); x != want || e != wantE {
			t.Fatalf("%v in %v: %v, %v; want %v, %v", a, p, x, e, want, wantE)
		}
	}
}

// P8.2: each bit of an IPv6 address turned alone: ahead of Len, among bits 64 to 71, among the IPv4 address's, behind.
func TestGetBits(t *testing.T) {
	r := dice()
	for _, p := range prefixes(r) {
		a := some4(r)
		x := plainPut(p, a)
		last := plainPlaces(p.Len)[31]
		for i := range 128 {
			y := flipped6(x, i)
			var want api.Addr4
			var wantGet, wantStrict api.Errno
			switch {
			case i < p.Len:
				wantGet, wantStrict = api.ErrOut, api.ErrOut
			case inGap(i):
				wantGet, wantStrict = api.ErrU, api.ErrU
			case i > last:
				want, wantStrict = a, api.ErrHost
			default:
				want = a
				for n, at := range plainPlaces(p.Len) {
					if at == i {
						flip(want[:], n)
					}
				}
			}
			if b, e := embed.Get(p, y); b != want || e != wantGet {
				t.Fatalf("Get of %v, bit %d: %v, %v; want %v, %v", p, i, b, e, want, wantGet)
			}
			if wantStrict != api.OK {
				want = api.Addr4{}
			}
			if b, e := embed.Strict(p, y); b != want || e != wantStrict {
				t.Fatalf("Strict of %v, bit %d: %v, %v; want %v, %v", p, i, b, e, want, wantStrict)
			}
		}
	}
}

// P8.2: where several errors apply, ErrOut comes first, then ErrU, then ErrHost.
func TestGetOrder(t *testing.T) {
	r := dice()
	for _, p := range prefixes(r) {
		if p.Len == 96 {
			continue
		}
		x := plainPut(p, some4(r))
		for _, c := range []struct {
			bits        []int
			get, strict api.Errno
		}{
			{[]int{0, 64}, api.ErrOut, api.ErrOut},
			{[]int{p.Len - 1, 71}, api.ErrOut, api.ErrOut},
			{[]int{p.Len - 1, 127}, api.ErrOut, api.ErrOut},
			{[]int{0, 64, 127}, api.ErrOut, api.ErrOut},
			{[]int{64, 127}, api.ErrU, api.ErrU},
			{[]int{71, 104}, api.ErrU, api.ErrU},
			{[]int{104, 127}, api.OK, api.ErrHost},
		} {
			y := flipped6(x, c.bits...)
			if _, e := embed.Get(p, y); e != c.get {
				t.Errorf("Get of %v, bits %v: %v, want %v", p, c.bits, e, c.get)
			}
			if _, e := embed.Strict(p, y); e != c.strict {
				t.Errorf("Strict of %v, bits %v: %v, want %v", p, c.bits, e, c.strict)
			}
			holdGet(t, p, y)
		}
	}
}

// P8.2: random addresses, near a prefix and far from it, of prefixes that may be or not.
func TestGetRandom(t *testing.T) {
	r := dice()
	for range 50000 {
		p := wildPrefix(r)
		x := some6(r)
		for i := range 128 {
			if i < p.Len && bit(x[:], i) != bit(p.Addr[:], i) || inGap(i) && i >= p.Len && bit(x[:], i) == 1 {
				flip(x[:], i)
			}
		}
		holdGet(t, p, x)
		holdGet(t, p, flipped6(x, r.IntN(128)))
		holdGet(t, p, flipped6(x, r.IntN(128), r.IntN(128), r.IntN(128)))
		holdGet(t, p, some6(r))
	}
}

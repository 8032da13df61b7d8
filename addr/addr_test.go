package addr_test

import (
	"math"
	"math/rand/v2"
	"testing"

	"ferryman/addr"
	"ferryman/api"
)

func dice() *rand.Rand { return rand.New(rand.NewPCG(2, 7)) }

// bit is the bit of an address at a place, written apart from the program: by division.
func bit(a []byte, at int) int {
	n := int(a[at/8])
	for range 7 - at%8 {
		n /= 2
	}
	return n % 2
}

// sameStart tells whether the first n bits of two addresses are alike.
func sameStart(a, b []byte, n int) bool {
	for i := range n {
		if bit(a, i) != bit(b, i) {
			return false
		}
	}
	return true
}

// tail tells whether all bits behind the first n have that value.
func tail(a []byte, n, value int) bool {
	for i := n; i < 8*len(a); i++ {
		if bit(a, i) != value {
			return false
		}
	}
	return true
}

func flip(a []byte, at int) { a[at/8] ^= 0x80 >> (at % 8) }

// wrong4 are prefixes that may not be.
func wrong4() []api.Prefix4 {
	return []api.Prefix4{
		{Len: -1},
		{Len: 33},
		{Len: math.MinInt},
		{Len: math.MaxInt},
		{Addr: api.Addr4{0x80}, Len: 0},
		{Addr: api.Addr4{0, 0, 0, 1}, Len: 0},
		{Addr: api.Addr4{1}, Len: 7},
		{Addr: api.Addr4{10, 1}, Len: 8},
		{Addr: api.Addr4{10, 1}, Len: 15},
		{Addr: api.Addr4{10, 0, 0, 1}, Len: 31},
		{Addr: api.Addr4{10, 0, 0, 1}, Len: 33},
		{Addr: api.Addr4{10, 0, 0, 1}, Len: -32},
	}
}

// wrong6 are prefixes that may not be.
func wrong6() []api.Prefix6 {
	return []api.Prefix6{
		{Len: -1},
		{Len: 129},
		{Len: math.MinInt},
		{Len: math.MaxInt},
		{Addr: api.Addr6{0x80}, Len: 0},
		{Addr: api.Addr6{15: 1}, Len: 0},
		{Addr: api.Addr6{0x20, 0x01}, Len: 15},
		{Addr: api.Addr6{7: 1, 8: 0x80}, Len: 64},
		{Addr: api.Addr6{15: 1}, Len: 127},
		{Addr: api.Addr6{15: 1}, Len: 129},
	}
}

// P2.4: at every length, whichever bit behind it is set.
func TestCheck4(t *testing.T) {
	for n := 0; n <= 32; n++ {
		all := api.Addr4{255, 255, 255, 255}
		for i := n; i < 32; i++ {
			flip(all[:], i)
		}
		for _, a := range []api.Addr4{{}, all} {
			if e := addr.Check4(api.Prefix4{Addr: a, Len: n}); e != api.OK {
				t.Errorf("%v/%d: %v", a, n, e)
			}
			for i := n; i < 32; i++ {
				b := a
				flip(b[:], i)
				if e := addr.Check4(api.Prefix4{Addr: b, Len: n}); e != api.ErrPrefix {
					t.Errorf("%v/%d: %v", b, n, e)
				}
			}
		}
	}
	for _, p := range wrong4() {
		if e := addr.Check4(p); e != api.ErrPrefix {
			t.Errorf("%v: %v", p, e)
		}
	}
}

// P2.4.
func TestCheck6(t *testing.T) {
	for n := 0; n <= 128; n++ {
		var all api.Addr6
		for i := range n {
			flip(all[:], i)
		}
		for _, a := range []api.Addr6{{}, all} {
			if e := addr.Check6(api.Prefix6{Addr: a, Len: n}); e != api.OK {
				t.Errorf("%v/%d: %v", a, n, e)
			}
			for i := n; i < 128; i++ {
				b := a
				flip(b[:], i)
				if e := addr.Check6(api.Prefix6{Addr: b, Len: n}); e != api.ErrPrefix {
					t.Errorf("%v/%d: %v", b, n, e)
				}
			}
		}
	}
	for _, p := range wrong6() {
		if e := addr.Check6(p); e != api.ErrPrefix {
			t.Errorf("%v: %v", p, e)
		}
	}
}

// P2.4: the errors have the numbers that the chapter names.
func TestNumbers(t *testing.T) {
	if api.ErrText != 20 || api.ErrHost != 21 || api.ErrPrefix != 22 || api.ErrRange != 5 {
		t.Error("other numbers")
	}
}

// P2.6 and P2.5: the prefix of n bits has the address, and all whose first n bits are its own, no other one.
func TestCut4(t *testing.T) {
	d := dice()
	for range 200 {
		var a api.Addr4
		for i := range a {
			a[i] = byte(d.Uint32())
		}
		for n := 0; n <= 32; n++ {
			p, e := addr.Cut4(a, n)
			if e != api.OK || p.Len != n || !sameStart(p.Addr[:], a[:], n) || !tail(p.Addr[:], n, 0) {
				t.Fatalf("%v, %d: %v, %v", a, n, p, e)
			}
			if has, e := addr.Has4(p, a); !has || e != api.OK {
				t.Fatalf("%v, %v: %v, %v", p, a, has, e)
			}
			for i := range 32 {
				b := a
				flip(b[:], i)
				if has, e := addr.Has4(p, b); has != (i >= n) || e != api.OK {
					t.Fatalf("%v, %v: %v, %v", p, b, has, e)
				}
			}
		}
	}
	for _, n := range []int{-1, 33, math.MinInt, math.MaxInt, -8, 256, 128} {
		if p, e := addr.Cut4(api.Addr4{1, 2, 3, 4}, n); p != (api.Prefix4{}) || e != api.ErrRange {
			t.Errorf("%d: %v, %v", n, p, e)
		}
	}
}

// P2.6 and P2.5.
func TestCut6(t *testing.T) {
	d := dice()
	for range 20 {
		var a api.Addr6
		for i := range a {
			a[i] = byte(d.Uint32())
		}
		for n := 0; n <= 128; n++ {
			p, e := addr.Cut6(a, n)
			if e != api.OK || p.Len != n || !sameStart(p.Addr[:], a[:], n) || !tail(p.Addr[:], n, 0) {
				t.Fatalf("%v, %d: %v, %v", a, n, p, e)
			}
			if has, e := addr.Has6(p, a); !has || e != api.OK {
				t.Fatalf("%v, %v: %v, %v", p, a, has, e)
			}
			for i := range 128 {
				b := a
				flip(b[:], i)
				if has, e := addr.Has6(p, b); has != (i >= n) || e != api.OK {
					t.Fatalf("%v, %v: %v, %v", p, b, has, e)
				}
			}
		}
	}
	for _, n := range []int{-1, 129, math.MinInt, math.MaxInt, -8, 256} {
		if p, e := addr.Cut6(api.Addr6{1, 2, 3, 4}, n); p != (api.Prefix6{}) || e != api.ErrRange {
			t.Errorf("%d: %v, %v", n, p, e)
		}
	}
}

// P2.6: all bits behind the first Len are 1, and the prefix has that address.
func TestLast4(t *testing.T) {
	for n := 0; n <= 32; n++ {
		p, _ := addr.Cut4(api.Addr4{0xa5, 0x5a, 0xc3, 0x3c}, n)
		a, e := addr.Last4(p)
		if e != api.OK || !sameStart(a[:], p.Addr[:], n) || !tail(a[:], n, 1) {
			t.Errorf("%v: %v, %v", p, a, e)
		}
		if has, _ := addr.Has4(p, a); !has {
			t.Errorf("%v has not %v", p, a)
		}
	}
	for _, p := range wrong4() {
		if a, e := addr.Last4(p); a != (api.Addr4{}) || e != api.ErrPrefix {
			t.Errorf("%v: %v, %v", p, a, e)
		}
	}
}

// P2.5: a prefix that may not be is told, on either side.
func TestWrongSets4(t *testing.T) {
	for _, right := range []api.Prefix4{{}, {Addr: api.Addr4{10}, Len: 8}, {Addr: api.Addr4{10, 0, 0, 1}, Len: 32}} {
		for _, p := range wrong4() {
			if has, e := addr.Has4(p, right.Addr); has || e != api.ErrPrefix {
				t.Errorf("%v, %v: %v, %v", p, right.Addr, has, e)
			}
			if c, e := addr.Cover4(p, right); c || e != api.ErrPrefix {
				t.Errorf("%v, %v: %v, %v", p, right, c, e)
			}
			if c, e := addr.Cover4(right, p); c || e != api.ErrPrefix {
				t.Errorf("%v, %v: %v, %v", right, p, c, e)
			}
			if c, e := addr.Cover4(p, p); c || e != api.ErrPrefix {
				t.Errorf("%v: %v, %v", p, c, e)
			}
		}
	}
}

// P2.5.
func TestWrongSets6(t *testing.T) {
	for _, right := range []api.Prefix6{{}, {Addr: api.Addr6{0x20, 1}, Len: 16}, {Addr: api.Addr6{15: 1}, Len: 128}} {
		for _, p := range wrong6() {
			if has, e := addr.Has6(p, right.Addr); has || e != api.ErrPrefix {
				t.Errorf("%v, %v: %v, %v", p, right.Addr, has, e)
			}
			if c, e := addr.Cover6(p, right); c || e != api.ErrPrefix {
				t.Errorf("%v, %v: %v, %v", p, right, c, e)
			}
			if c, e := addr.Cover6(right, p); c || e != api.ErrPrefix {
				t.Errorf("%v, %v: %v, %v", right, p, c, e)
			}
			if c, e := addr.Cover6(p, p); c || e != api.ErrPrefix {
				t.Errorf("%v: %v, %v", p, c, e)
			}
		}
	}
}

// few4 are all prefixes whose address differs from a base in the four bits from a place on alone, of all lengths up to those bits' end: few enough to hold all against all.
func few4(base api.Addr4, from int) (prefixes []api.Prefix4, addresses []api.Addr4) {
	for v := range 16 {
		a := base
		for i := range 4 {
			if v>>(3-i)&1 == 1 {
				flip(a[:], from+i)
			}
		}
		addresses = append(addresses, a)
	}
	seen := map[api.Prefix4]bool{}
	for _, a := range addresses {
		for n := from; n <= from+4; n++ {
			p, _ := addr.Cut4(a, n)
			if !seen[p] {
				seen[p] = true
				prefixes = append(prefixes, p)
			}
		}
	}
	return prefixes, addresses
}

// P2.5, P2.8: to cover is to have all that the other one has; it is a partial order; what has an address in common covers or is covered.
func TestSets4(t *testing.T) {
	for _, from := range []int{0, 6, 13, 28} {
		prefixes, addresses := few4(api.Addr4{}, from)
		if len(prefixes) != 31 {
			t.Fatalf("%d prefixes", len(prefixes))
		}
		for _, p := range prefixes {
			for _, q := range prefixes {
				all, common := true, false
				for _, a := range addresses {
					inP, _ := addr.Has4(p, a)
					inQ, _ := addr.Has4(q, a)
					all = all && (inP || !inQ)
					common = common || inP && inQ
				}
				pq, e := addr.Cover4(p, q)
				qp, f := addr.Cover4(q, p)
				if pq != all || e != api.OK || f != api.OK {
					t.Fatalf("%v, %v: %v, %v", p, q, pq, all)
				}
				if common != (pq || qp) || pq && qp != (p == q) {
					t.Fatalf("%v, %v: %v, %v, %v", p, q, common, pq, qp)
				}
				for _, r := range prefixes {
					qr, _ := addr.Cover4(q, r)
					if pr, _ := addr.Cover4(p, r); pq && qr && !pr {
						t.Fatalf("%v, %v, %v", p, q, r)
					}
				}
			}
		}
	}
}

// P2.5, P2.8: of prefixes of one another's addresses, at all pairs of lengths.
func TestSets6(t *testing.T) {
	d := dice()
	var a api.Addr6
	for i := range a {
		a[i] = byte(d.Uint32())
	}
	for n := 0; n <= 128; n += 1 + d.IntN(5) {
		p, _ := addr.Cut6(a, n)
		for m := 0; m <= 128; m++ {
			q, _ := addr.Cut6(a, m)
			if c, e := addr.Cover6(p, q); c != (n <= m) || e != api.OK {
				t.Fatalf("%v, %v: %v, %v", p, q, c, e)
			}
			if m == 0 {
				continue
			}
			b := a
			flip(b[:], m-1)
			other, _ := addr.Cut6(b, m)
			if c, e := addr.Cover6(p, other); c != (n < m) || e != api.OK {
				t.Fatalf("%v, %v: %v, %v", p, other, c, e)
			}
			pq, _ := addr.Cover6(p, other)
			qp, _ := addr.Cover6(other, p)
			if common, _ := addr.Has6(p, other.Addr); n <= m && (pq || qp) != common {
				t.Fatalf("%v, %v: %v, %v, %v", p, other, common, pq, qp)
			}
		}
	}
}

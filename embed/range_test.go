package embed_test

import (
	"math/rand/v2"
	"testing"

	"ferryman/addr"
	"ferryman/api"
	"ferryman/embed"
)

// plainLen is the place behind the last bit that an IPv4 prefix of n bits takes behind one of a length that may be.
func plainLen(p, n int) int {
	if n == 0 {
		return p
	}
	return plainPlaces(p)[n-1] + 1
}

// cut is an address whose bits behind the first n are 0, for any n.
func cut(a api.Addr4, n int) api.Addr4 {
	for i := range 32 {
		if i >= n && bit(a[:], i) == 1 {
			flip(a[:], i)
		}
	}
	return a
}

// P8.4: each Len of p with every Len of q, those that may not be among them.
func TestRangeLens(t *testing.T) {
	r := dice()
	all := append([]int{}, far...)
	for n := -40; n <= 140; n++ {
		all = append(all, n)
	}
	for _, p := range prefixes(r) {
		for _, n := range all {
			for _, a := range []api.Addr4{{}, cut(api.Addr4{255, 255, 255, 255}, n), cut(some4(r), n)} {
				q := api.Prefix4{Addr: a, Len: n}
				want, wantE := api.Prefix6{}, api.ErrPrefix
				if n >= 0 && n <= 32 {
					want, wantE = api.Prefix6{Addr: plainPut(p, a), Len: plainLen(p.Len, n)}, api.OK
				}
				s, e := embed.Range(p, q)
				if s != want || e != wantE {
					t.Fatalf("%v, %v: %v, %v; want %v, %v", p, q, s, e, want, wantE)
				}
				if e == api.OK && addr.Check6(s) != api.OK {
					t.Fatalf("%v, %v: %v may not be", p, q, s)
				}
			}
		}
	}
}

// P8.4: the lengths around bit 64, told one by one.
func TestRangeAroundGap(t *testing.T) {
	for _, c := range []struct{ p, q, want int }{
		{32, 0, 32}, {32, 1, 33}, {32, 31, 63}, {32, 32, 64},
		{40, 0, 40}, {40, 23, 63}, {40, 24, 64}, {40, 25, 73}, {40, 32, 80},
		{48, 0, 48}, {48, 15, 63}, {48, 16, 64}, {48, 17, 73}, {48, 32, 88},
		{56, 0, 56}, {56, 7, 63}, {56, 8, 64}, {56, 9, 73}, {56, 24, 88}, {56, 32, 96},
		{64, 0, 64}, {64, 1, 73}, {64, 32, 104},
		{96, 0, 96}, {96, 1, 97}, {96, 31, 127}, {96, 32, 128},
	} {
		p := api.Prefix6{Addr: api.Addr6{0x20, 0x01, 0x0d, 0xb8}, Len: c.p}
		if s, e := embed.Range(p, api.Prefix4{Len: c.q}); s.Len != c.want || s.Addr != p.Addr || e != api.OK {
			t.Errorf("%d and %d: %v, %v; want %d", c.p, c.q, s, e, c.want)
		}
	}
}

// P8.4: a bit of q behind its Len.
func TestRangeWrong(t *testing.T) {
	r := dice()
	for _, p := range prefixes(r) {
		for n := range 32 {
			a := cut(some4(r), n)
			for i := n; i < 32; i++ {
				b := a
				flip(b[:], i)
				if s, e := embed.Range(p, api.Prefix4{Addr: b, Len: n}); s != (api.Prefix6{}) || e != api.ErrPrefix {
					t.Fatalf("%v, %v/%d: %v, %v", p, b, n, s, e)
				}
			}
		}
	}
}

// P8.5: Get, and Strict, of Put is the address, and Put of what Strict tells is where it stood.
func TestThereAndBack(t *testing.T) {
	r := dice()
	for _, p := range prefixes(r) {
		for range 500 {
			a := some4(r)
			x, _ := embed.Put(p, a)
			if b, e := embed.Get(p, x); b != a || e != api.OK {
				t.Fatalf("Get of %v, %v: %v, %v; want %v", p, x, b, e, a)
			}
			if b, e := embed.Strict(p, x); b != a || e != api.OK {
				t.Fatalf("Strict of %v, %v: %v, %v; want %v", p, x, b, e, a)
			}
			y := flipped6(x, p.Len+r.IntN(128-p.Len))
			if b, e := embed.Strict(p, y); e == api.OK {
				if back, _ := embed.Put(p, b); back != y {
					t.Fatalf("%v, %v: back at %v", p, y, back)
				}
			}
		}
	}
}

// P8.6: unlike addresses, by one bit or more, stand in unlike ones.
func TestApart(t *testing.T) {
	r := dice()
	for _, p := range prefixes(r) {
		seen := map[api.Addr6]api.Addr4{}
		base := some4(r)
		for i := range 33 {
			for j := range 33 {
				a := base
				for _, at := range []int{i, j} {
					if at < 32 {
						flip(a[:], at)
					}
				}
				x, _ := embed.Put(p, a)
				if was, ok := seen[x]; ok && was != a {
					t.Fatalf("%v and %v stand in %v", was, a, x)
				}
				seen[x] = a
			}
		}
		if len(seen) != 1+32+32*31/2 {
			t.Fatalf("%v: %d addresses", p, len(seen))
		}
	}
}

// P8.7: the prefix has what Put tells; an address lies in q just if Range has what Put tells of it.
func TestWithin(t *testing.T) {
	r := dice()
	for _, p := range prefixes(r) {
		for n := 0; n <= 32; n++ {
			a := some4(r)
			q := api.Prefix4{Addr: cut(a, n), Len: n}
			s, _ := embed.Range(p, q)
			for i := range 33 {
				b := a
				if i < 32 {
					flip(b[:], i)
				}
				holdWithin(t, p, q, s, b, i >= n)
			}
			for range 5 {
				b := nearly(r, a)
				in, _ := addr.Has4(q, b)
				holdWithin(t, p, q, s, b, in)
			}
		}
	}
}

// nearly is an address that begins as another one does, for some bits.
func nearly(r *rand.Rand, a api.Addr4) api.Addr4 {
	b := some4(r)
	for i := range r.IntN(33) {
		if bit(a[:], i) != bit(b[:], i) {
			flip(b[:], i)
		}
	}
	return b
}

func holdWithin(t *testing.T, p api.Prefix6, q api.Prefix4, s api.Prefix6, a api.Addr4, in bool) {
	t.Helper()
	x, _ := embed.Put(p, a)
	if has, e := addr.Has6(p, x); !has || e != api.OK {
		t.Fatalf("%v has not %v: %v", p, x, e)
	}
	if has, e := addr.Has6(s, x); has != in || e != api.OK {
		t.Fatalf("%v, which is of %v, has %v, which is of %v: %v, %v; want %v", s, q, x, a, has, e, in)
	}
}

// Rule 4: what is answered may be changed, and the next answer is as it was.
func TestNothingIsKept(t *testing.T) {
	r := dice()
	for range 2000 {
		p, a, x := wildPrefix(r), some4(r), some6(r)
		q := api.Prefix4{Addr: cut(a, 12), Len: 12}
		y, e1 := embed.Put(p, a)
		b, e2 := embed.Get(p, y)
		s, e3 := embed.Range(p, q)
		k := embed.Known()
		wasY, wasB, wasS := y, b, s
		flip(y[:], r.IntN(128))
		flip(b[:], r.IntN(32))
		flip(s.Addr[:], r.IntN(128))
		flip(k.Addr[:], r.IntN(128))
		embed.Put(somePrefix(r, 96), some4(r))
		embed.Get(somePrefix(r, 32), x)
		embed.Pair(k, b, a)
		embed.Global(b)
		if again, e := embed.Put(p, a); again != wasY || e != e1 {
			t.Fatalf("Put: %v, %v; was %v, %v", again, e, wasY, e1)
		}
		if again, e := embed.Get(p, wasY); again != wasB || e != e2 {
			t.Fatalf("Get: %v, %v; was %v, %v", again, e, wasB, e2)
		}
		if again, e := embed.Range(p, q); again != wasS || e != e3 {
			t.Fatalf("Range: %v, %v; was %v, %v", again, e, wasS, e3)
		}
		if embed.Known() != prefix6(t, "64:ff9b::/96") {
			t.Fatal("the well-known prefix changed")
		}
	}
}

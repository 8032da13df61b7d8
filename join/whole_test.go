package join_test

import (
	"bytes"
	"testing"

	"ferryman/api"
	"ferryman/ipv4"
	"ferryman/ipv6"
)

// P15.2: a whole datagram has the fields of the fragment with Off 0, whichever came first, and of IPv6 no fragment header.
func TestWholeOfFirst(t *testing.T) {
	for turn := range 2 {
		b := newBoth(t, 1, 10)
		v, later := four(part{id: 7, n: 8, more: true}), four(part{id: 7, off: 1, n: 3})
		v.TOS, v.DF, v.TTL, v.Options = 1, true, 3, []byte{7, 3, 4, 0}
		later.TOS, later.TTL, later.Options = 9, 8, []byte{1, 1, 1, 1}
		want := v
		want.MF, want.Body = false, text(0, 11)
		l := [][]api.V4{{v, later}, {later, v}}[turn]
		b.put4(0, l[0])
		if w, is, e := b.put4(0, l[1]); !ipv4.Same(w, want) || w.ID != 7 || !is || e != api.OK {
			t.Errorf("%s, %t, %d", show4(w), is, e)
		}
		s, behind := six(part{id: 7, n: 8, more: true}), six(part{id: 7, off: 1, n: 3})
		s.Class, s.Label, s.Hop, s.Proto, s.Heads = 1, 2, 3, 6, []api.Head{{Kind: 60, Body: text(3, 6)}}
		behind.Class, behind.Label, behind.Hop, behind.Proto, behind.Heads = 4, 5, 6, 60, []api.Head{{Kind: 0, Body: text(3, 14)}}
		want6 := s
		want6.Frag, want6.ID, want6.More, want6.Body = false, 0, false, text(0, 11)
		l6 := [][]api.V6{{s, behind}, {behind, s}}[turn]
		b.put6(0, l6[0])
		if w, is, e := b.put6(0, l6[1]); !ipv6.Same(w, want6) || !is || e != api.OK {
			t.Errorf("%s, %t, %d", show6(w), is, e)
		}
		testWaits(b, 0, 0)
	}
}

// P15.2: an IPv4 datagram that comes to be as long as may be, and one byte longer, with and without options; options of later fragments play no part.
func TestLong4(t *testing.T) {
	for _, options := range []int{0, 4, 40} {
		for _, over := range []int{-8, -1, 0, 1, 8} {
			n := 65515 - options + over
			first, last := four(part{id: 1, n: 40000, more: true}), four(part{id: 1, off: 5000, n: n - 40000})
			first.Options, last.Options = make([]byte, options), make([]byte, 4)
			if 40000+len(last.Body) > 65535 {
				continue // such a one may not be as a fragment
			}
			for _, l := range [][]api.V4{{first, last}, {last, first}} {
				b := newBoth(t, 1, 10)
				b.put4(0, l[0])
				w, is, e := b.put4(0, l[1])
				if over <= 0 && (!is || e != api.OK || len(w.Body) != n) || over > 0 && (is || e != api.ErrLong) {
					t.Errorf("%d of options, %d of body: %t, %d", options, n, is, e)
				}
				testWaits(b, 0, 0)
				testNext(b, 0, false)
				testPut(b, kinds()[0], 1, part{id: 1, off: 5000, n: 3}, false, api.OK)
				testNext(b, 11, true)
			}
		}
	}
}

// heads are heads of so many bytes together, at most 2048 each.
func heads(n int) []api.Head {
	var l []api.Head
	for n > 0 {
		size := min(n, 2048)
		l = append(l, api.Head{Kind: 60, Body: text(n, size-2)})
		n -= size
	}
	return l
}

// P15.2: the same of IPv6: its fragments had a fragment header, the whole one has none; a Proto that would be read again is not, if it is too long.
func TestLong6(t *testing.T) {
	for _, proto := range []byte{17, 59, 0, 43, 44, 60} {
		for _, size := range []int{8, 16, 2048, 16384} {
			for _, over := range []int{-8, -1, 0, 1, 2, 7} {
				n := 65535 - size + over
				if n > 65535 {
					continue
				}
				first, last := six(part{id: 1, n: 32000, more: true}), six(part{id: 1, off: 4000, n: n - 32000})
				first.Heads, first.Proto = heads(size), proto
				last.Heads = heads(8)
				first.Body = bytes.Clone(first.Body)
				copy(first.Body, []byte{17, 0, 0, 0, 0, 0, 0, 0})
				for _, l := range [][]api.V6{{first, last}, {last, first}} {
					b := newBoth(t, 1, 10)
					b.put6(0, l[0])
					w, is, e := b.put6(0, l[1])
					want := api.OK
					switch {
					case over > 0:
						want = api.ErrLong
					case proto == 0, size == 16384 && (proto == 43 || proto == 60):
						want = api.ErrV6 // not the first head, or the ninth
					}
					if e != want || is != (want == api.OK) {
						t.Errorf("proto %d, %d of heads, %d of body: %s, %t, %d; want %d", proto, size, n, show6(w), is, e, want)
					}
					testWaits(b, 0, 0)
				}
			}
		}
	}
}

// again puts an IPv6 datagram in two fragments, with a Proto and Heads, in any order.
func again(b both, proto byte, l []api.Head, body []byte, turn int) (api.V6, bool, api.Errno) {
	b.t.Helper()
	first := api.V6{Hop: 5, Heads: l, Frag: true, ID: 9, Proto: proto, More: true, Body: body[:8]}
	last := api.V6{Hop: 6, Frag: true, ID: 9, Proto: 17, Off: 1, Body: body[8:]}
	if turn == 1 {
		first, last = last, first
	}
	b.put6(0, first)
	testWaits(b, 1, len(first.Body))
	return b.put6(0, last)
}

// P15.2: with a Proto 0, 43, 44 or 60 a whole datagram is what ipv6.Parse makes of it.
func TestReadAgain(t *testing.T) {
	dest, eight := []api.Head{{Kind: 60, Body: text(0, 14)}}, heads(8*2048)
	opts := []byte{17, 1, 1, 2, 3, 4, 5, 6, 7, 8, 9, 10, 11, 12, 13, 14, 'a', 'b', 'c'} // a head of 16 bytes, and udp behind it
	frag := []byte{17, 0, 0, 9, 0, 0, 0, 5, 'a', 'b', 'c'}                              // More, Off 1, ID 5
	chain := []byte{43, 0, 1, 2, 3, 4, 5, 6, 44, 0, 1, 2, 3, 4, 5, 6, 6, 0, 0, 0, 0, 0, 0, 1, 'x'}
	head := func(kind byte) api.Head { return api.Head{Kind: kind, Body: opts[2:16]} }
	base := api.V6{Hop: 5, Proto: 17, Body: []byte("abc")}
	with := func(l ...api.Head) api.V6 { v := base; v.Heads = l; return v }
	piece := func(l ...api.Head) api.V6 {
		v := with(l...)
		v.Frag, v.ID, v.Off, v.More = true, 5, 1, true
		return v
	}
	tail := api.V6{Hop: 5, Heads: []api.Head{{Kind: 60, Body: text(0, 14)}, {Kind: 60, Body: chain[2:8]}, {Kind: 43, Body: chain[10:16]}}, Frag: true, ID: 1, Proto: 6, Body: []byte("x")}
	for i, c := range []struct {
		proto byte
		heads []api.Head
		body  []byte
		want  api.V6
		e     api.Errno
	}{
		{0, nil, opts, with(head(0)), 0},
		{43, nil, opts, with(head(43)), 0},
		{60, nil, opts, with(head(60)), 0},
		{44, nil, frag, piece(), 0},
		{43, dest, opts, with(dest[0], head(43)), 0},
		{60, dest, opts, with(dest[0], head(60)), 0},
		{44, dest, frag, piece(dest...), 0},
		{60, dest, chain, tail, 0},
		{60, eight[1:], opts, with(append(eight[1:8:8], head(60))...), 0},
		{44, eight, frag, piece(eight...), 0},
		// What ipv6.Parse does not take: no first head, the ninth one, bytes that end too early, one that is said to stand behind and does not.
		{0, dest, opts, api.V6{}, api.ErrV6},
		{60, eight, opts, api.V6{}, api.ErrV6},
		{43, eight, opts, api.V6{}, api.ErrV6},
		{60, nil, opts[:15], api.V6{}, api.ErrV6},
		{43, dest, opts[:15], api.V6{}, api.ErrV6},
		{0, nil, []byte{0, 0, 0, 0, 0, 0, 0, 0, 0, 0, 0, 0, 0, 0, 0, 0}, api.V6{}, api.ErrV6},
		{60, nil, []byte{44, 0, 0, 0, 0, 0, 0, 0, 0, 0, 0, 0, 0}, api.V6{}, api.ErrV6},
	} {
		for turn := range 2 {
			b := newBoth(t, 1, 10)
			w, is, e := again(b, c.proto, c.heads, c.body, turn)
			if !ipv6.Same(w, c.want) || is != (c.e == 0) || e != c.e {
				t.Errorf("%d: %+v, %t, %d; want %+v, %d", i, w, is, e, c.want, c.e)
			}
			testWaits(b, 0, 0)
			testNext(b, 0, false)
		}
	}
}

// P15.2: of every Proto, a datagram in one fragment, whose Body is a head or is not.
func TestProtos(t *testing.T) {
	for proto := range 256 {
		b := newBoth(t, 1, 10)
		for _, body := range [][]byte{{}, {17, 0, 0, 0, 0, 0, 0, 0}, {17, 0, 0, 0, 0, 0, 0}, {17, 1, 0, 0, 0, 0, 0, 0}, {0, 0, 0, 0, 0, 0, 0, 0}} {
			for _, l := range [][]api.Head{nil, heads(8), heads(24)} {
				v := api.V6{Frag: true, ID: 1, Proto: byte(proto), Heads: l, Body: body}
				_, is, e := b.put6(0, v)
				whole := is && e == api.OK
				switch proto {
				case 0, 43, 44, 60:
					whole = is && e == api.OK || !is && e == api.ErrV6
				}
				if !whole {
					t.Errorf("proto %d: %t, %d", proto, is, e)
				}
				testWaits(b, 0, 0)
			}
		}
	}
}

// P15.2, P15.4: what waits behind ErrOverlap, behind ErrLong, behind ErrV6 and behind a whole one: nothing of that datagram, all of the others; and it may begin anew.
func TestBehind(t *testing.T) {
	k4, k6 := kinds()[0], kinds()[1]
	none := six(part{id: 1, n: 8, more: true})
	none.Proto = 0
	none.Heads = heads(8)
	long := six(part{id: 1, n: 8, more: true})
	long.Heads = heads(2048)
	for i, c := range []struct {
		k     kind
		there part
		end   func(b both) api.Errno
		want  api.Errno
	}{
		{k4, part{id: 1, off: 1, n: 3}, func(b both) api.Errno { _, _, e := k4.put(b, 7, part{id: 1, off: 0, n: 16, more: true}); return e }, api.ErrOverlap},
		{k4, part{id: 1, off: 1, n: 65515}, func(b both) api.Errno { _, _, e := k4.put(b, 7, part{id: 1, off: 0, n: 8, more: true}); return e }, api.ErrLong},
		{k4, part{id: 1, off: 1, n: 3}, func(b both) api.Errno { _, _, e := k4.put(b, 7, part{id: 1, off: 0, n: 8, more: true}); return e }, api.OK},
		{k6, part{id: 1, off: 1, n: 3}, func(b both) api.Errno { _, _, e := k6.put(b, 7, part{id: 1, off: 0, n: 16, more: true}); return e }, api.ErrOverlap},
		{k6, part{id: 1, off: 1, n: 65000}, func(b both) api.Errno { _, _, e := b.put6(7, long); return e }, api.ErrLong},
		{k6, part{id: 1, off: 1, n: 3}, func(b both) api.Errno { _, _, e := b.put6(7, none); return e }, api.ErrV6},
		{k6, part{id: 1, off: 1, n: 3}, func(b both) api.Errno { _, _, e := k6.put(b, 7, part{id: 1, off: 0, n: 8, more: true}); return e }, api.OK},
	} {
		b := newBoth(t, 3, 10)
		testPut(b, c.k, 5, c.there, false, api.OK)
		testPut(b, k4, 6, part{id: 2, off: 1, n: 16, more: true}, false, api.OK)
		testPut(b, k6, 6, part{id: 2, off: 1, n: 24, more: true}, false, api.OK)
		testNext(b, 15, true)
		if e := c.end(b); e != c.want {
			t.Errorf("%d: %d; want %d", i, e, c.want)
		}
		testWaits(b, 2, 40)
		testNext(b, 16, true)
		c.there.n = 5
		testPut(b, c.k, 8, c.there, false, api.OK)
		testWaits(b, 3, 45)
		if late, _ := b.tick(16); len(late) != 2 {
			t.Errorf("%d: %d are late", i, len(late))
		}
		testNext(b, 18, true)
		testPut(b, c.k, 17, part{id: 1, n: 8, more: true}, true, api.OK)
		testWaits(b, 0, 0)
	}
}

// P15.7: fragments that differ in one alone of Src, Dst, Proto (of IPv4) and ID are of another datagram; those that differ in others are not.
func TestApart(t *testing.T) {
	b := newBoth(t, 4096, 10)
	base := four(part{id: 1, off: 1, n: 3})
	all := []api.V4{base}
	for i := range 32 {
		v, w := base, base
		v.Src[i/8] ^= 1 << (i % 8)
		w.Dst[i/8] ^= 1 << (i % 8)
		all = append(all, v, w)
	}
	for i := range 16 {
		v := base
		v.ID ^= 1 << i
		all = append(all, v)
	}
	for i := range 8 {
		v := base
		v.Proto ^= 1 << i
		all = append(all, v)
	}
	turned := base
	turned.Src, turned.Dst = base.Dst, base.Src
	all = append(all, turned)
	for _, v := range all {
		if _, is, e := b.put4(0, v); is || e != api.OK {
			t.Fatalf("%s: %t, %d", show4(v), is, e)
		}
	}
	testWaits(b, len(all), 3*len(all))
	for i, v := range all {
		v.Off, v.MF, v.Body = 0, true, text(0, 8)
		if w, is, e := b.put4(1, v); !is || e != api.OK || w.ID != v.ID || w.Proto != v.Proto || w.Src != v.Src || w.Dst != v.Dst {
			t.Fatalf("%s: %s, %t, %d", show4(v), show4(w), is, e)
		}
		testWaits(b, len(all)-1-i, 3*(len(all)-1-i))
	}
}

// P15.7: the same of IPv6, where Proto plays no part.
func TestApart6(t *testing.T) {
	b := newBoth(t, 4096, 10)
	base := six(part{id: 1, off: 1, n: 3})
	all := []api.V6{base}
	for i := range 128 {
		v, w := base, base
		v.Src[i/8] ^= 1 << (i % 8)
		w.Dst[i/8] ^= 1 << (i % 8)
		all = append(all, v, w)
	}
	for i := range 32 {
		v := base
		v.ID ^= 1 << i
		all = append(all, v)
	}
	for _, v := range all {
		if _, is, e := b.put6(0, v); is || e != api.OK {
			t.Fatalf("%s: %t, %d", show6(v), is, e)
		}
	}
	testWaits(b, len(all), 3*len(all))
	for i, v := range all {
		v.Off, v.More, v.Body, v.Proto, v.Class, v.Label, v.Hop, v.Heads = 0, true, text(0, 8), 6, 1, 2, 3, heads(8)
		if w, is, e := b.put6(1, v); !is || e != api.OK || w.Proto != 6 || w.Src != v.Src || w.Dst != v.Dst {
			t.Fatalf("%s: %s, %t, %d", show6(v), show6(w), is, e)
		}
		testWaits(b, len(all)-1-i, 3*(len(all)-1-i))
	}
}

// P15.7: a datagram of IPv4 and one of IPv6 whose fields have the same bytes are two.
func TestKindsApart(t *testing.T) {
	b := newBoth(t, 2, 10)
	v := api.V4{Off: 1, Body: text(8, 3)}
	w := api.V6{Frag: true, Off: 1, Body: text(8, 5)}
	b.put4(0, v)
	b.put6(0, w)
	testWaits(b, 2, 8)
	v.Off, v.MF, v.Body = 0, true, text(0, 8)
	if x, is, e := b.put4(0, v); len(x.Body) != 11 || !is || e != api.OK {
		t.Errorf("%s, %t, %d", show4(x), is, e)
	}
	testWaits(b, 1, 5)
}

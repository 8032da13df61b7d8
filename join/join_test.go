package join_test

import (
	"math"
	"reflect"
	"testing"

	"ferryman/api"
	"ferryman/ipv4"
	"ferryman/ipv6"
	"ferryman/join"
)

const maxTime = 1 << 40

// part is a fragment of either kind.
type part struct {
	id   int
	off  int
	n    int // bytes of Body
	more bool
}

// text is the bytes from a place of a datagram on; no two places near one another have the same ones.
func text(from, n int) []byte {
	b := make([]byte, n)
	for i := range b {
		b[i] = byte((from+i)*7 + (from+i)>>8)
	}
	return b
}

func four(p part) api.V4 {
	return api.V4{TTL: 64, Proto: 17, ID: uint16(p.id), Off: p.off, MF: p.more, Src: api.Addr4{10, 0, 0, 1}, Dst: api.Addr4{10, 0, 0, 2}, Body: text(8*p.off, p.n)}
}

func six(p part) api.V6 {
	return api.V6{Hop: 64, Proto: 17, Frag: true, ID: uint32(p.id), Off: p.off, More: p.more, Src: api.Addr6{1}, Dst: api.Addr6{2}, Body: text(8*p.off, p.n)}
}

// kind is one of both kinds of datagrams.
type kind struct {
	name string
	put  func(b both, now int, p part) ([]byte, bool, api.Errno)
}

func kinds() []kind {
	return []kind{
		{"four", func(b both, now int, p part) ([]byte, bool, api.Errno) {
			b.t.Helper()
			v, is, e := b.put4(now, four(p))
			return v.Body, is, e
		}},
		{"six", func(b both, now int, p part) ([]byte, bool, api.Errno) {
			b.t.Helper()
			v, is, e := b.put6(now, six(p))
			return v.Body, is, e
		}},
	}
}

// testPut holds what a fragment brings against whether it makes its datagram whole, and an error.
func testPut(b both, k kind, now int, p part, wantIs bool, wantE api.Errno) {
	b.t.Helper()
	if _, is, e := k.put(b, now, p); is != wantIs || e != wantE {
		b.t.Fatalf("%s, %+v at %d: %t, %d; want %t, %d", k.name, p, now, is, e, wantIs, wantE)
	}
}

// testWaits holds how many datagrams wait, and their bytes, against numbers.
func testWaits(b both, open, bytes int) {
	b.t.Helper()
	if b.j.Open() != open || b.j.Bytes() != bytes {
		b.t.Fatalf("%d with %d bytes wait; want %d with %d", b.j.Open(), b.j.Bytes(), open, bytes)
	}
}

// testNext holds Next against an answer.
func testNext(b both, want int, wantIs bool) {
	b.t.Helper()
	if n, is := b.j.Next(); n != want || is != wantIs {
		b.t.Fatalf("Next = %d, %t; want %d, %t", n, is, want, wantIs)
	}
}

// each runs a test of both kinds.
func each(t *testing.T, test func(t *testing.T, k kind)) {
	for _, k := range kinds() {
		t.Run(k.name, func(t *testing.T) { test(t, k) })
	}
}

// P15.1 to P15.3: the errors and limits have the numbers that the document names.
func TestNumbers(t *testing.T) {
	got := []int{int(api.ErrArg), int(api.ErrLong), int(api.ErrNil), int(api.ErrPiece), int(api.ErrFull), int(api.ErrOverlap), int(api.ErrTime), int(api.ErrV6), api.MaxJoin, api.MaxTime, api.MaxPacket}
	if want := []int{1, 2, 4, 150, 151, 152, 153, 54, 4096, 1 << 40, 65535}; !reflect.DeepEqual(got, want) {
		t.Errorf("%d", got)
	}
}

// The chapter's example.
func TestExample(t *testing.T) {
	each(t, func(t *testing.T, k kind) {
		b := newBoth(t, 1, 10)
		testPut(b, k, 0, part{id: 1, off: 1, n: 3}, false, api.OK)
		testPut(b, k, 0, part{id: 2, off: 0, n: 8, more: true}, false, api.ErrFull)
		whole, is, e := k.put(b, 0, part{id: 1, off: 0, n: 8, more: true})
		if len(whole) != 11 || string(whole) != string(text(0, 11)) || !is || e != api.OK {
			t.Errorf("%x, %t, %d", whole, is, e)
		}
		testWaits(b, 0, 0)
	})
}

// P15.1: settings at their edges and far beyond; with an error there is no joiner.
func TestNew(t *testing.T) {
	may := func(n, most int) bool { return n >= 1 && n <= most }
	mosts := []int{0, 1, 2, 4095, 4096, 4097, -1, -4096, 1<<32 + 1, math.MinInt, math.MaxInt}
	timeouts := []int{0, 1, 2, 1<<20 - 1, 1 << 20, 1<<20 + 1, -1, -1 << 20, 1<<32 + 1, math.MinInt, math.MaxInt}
	for _, most := range mosts {
		for _, timeout := range timeouts {
			if may(most, 4096) && may(timeout, 1<<20) {
				b := newBoth(t, most, timeout)
				testWaits(b, 0, 0)
				testNext(b, 0, false)
				if l, e := b.tick(0); len(l) != 0 || e != api.OK {
					t.Errorf("%d, %d: Tick = %v, %d", most, timeout, l, e)
				}
				continue
			}
			if j, e := join.New(api.JoinConf{Most: most, Timeout: timeout}); j != nil || e != api.ErrArg {
				t.Errorf("New(%d, %d) = %v, %d", most, timeout, j, e)
			}
		}
	}
}

// testUnmade holds each call of a joiner that nobody made against rule 3.
func testUnmade(t *testing.T, j *join.Joiner) {
	t.Helper()
	long4, long6 := four(part{n: 65536}), six(part{n: 65536})
	for _, now := range []int{0, 1, maxTime, -1, maxTime + 1, math.MinInt, math.MaxInt} {
		for _, v := range []api.V4{{}, four(part{}), four(part{n: 8, more: true}), four(part{off: 9000}), four(part{n: 7, more: true}), long4} {
			if w, is, e := j.Put4(now, v); !reflect.DeepEqual(w, api.V4{}) || is || e != api.ErrNil {
				t.Errorf("Put4 = %s, %t, %d", show4(w), is, e)
			}
		}
		for _, v := range []api.V6{{Proto: 17}, {}, six(part{}), six(part{n: 8, more: true}), six(part{off: 9000}), six(part{n: 7, more: true}), long6} {
			if w, is, e := j.Put6(now, v); !reflect.DeepEqual(w, api.V6{}) || is || e != api.ErrNil {
				t.Errorf("Put6 = %s, %t, %d", show6(w), is, e)
			}
		}
		if l, e := j.Tick(now); l != nil || e != api.ErrNil {
			t.Errorf("Tick = %v, %d", l, e)
		}
	}
	if n, is := j.Next(); n != 0 || is || j.Open() != 0 || j.Bytes() != 0 {
		t.Errorf("Next = %d, %t; Open = %d; Bytes = %d", n, is, j.Open(), j.Bytes())
	}
}

// Rule 3: joiners that nobody made: ErrNil comes ahead of all other errors, and nothing changes.
func TestUnmade(t *testing.T) {
	testUnmade(t, nil)
	var zero join.Joiner
	testUnmade(t, &zero)
	if !reflect.DeepEqual(zero, join.Joiner{}) {
		t.Error("a zero struct changed")
	}
	testUnmade(t, new(join.Joiner))
}

// P15.2: a datagram that is no fragment comes out as it is, whatever waits.
func TestNoFragment(t *testing.T) {
	b := newBoth(t, 1, 10)
	for range 2 {
		for _, v := range []api.V4{{}, four(part{id: 1, n: 7}), {DF: true, TOS: 3, TTL: 0, Options: []byte{1, 1, 1, 0}, Body: text(0, 65511)}} {
			if w, is, e := b.put4(0, v); !ipv4.Same(w, v) || !is || e != api.OK {
				t.Errorf("%s = %s, %t, %d", show4(v), show4(w), is, e)
			}
		}
		for _, v := range []api.V6{{Proto: 17}, {Proto: 59, Class: 1, Label: 2, Heads: []api.Head{{Kind: 60, Body: make([]byte, 6)}}, Body: text(0, 65527)}} {
			if w, is, e := b.put6(0, v); !ipv6.Same(w, v) || !is || e != api.OK {
				t.Errorf("%s = %s, %t, %d", show6(v), show6(w), is, e)
			}
		}
		// Once more, with as many that wait as may.
		b.put4(0, four(part{id: 1, n: 8, more: true}))
		testWaits(b, 1, 8)
	}
}

// P15.2: what ipv4.Check and ipv6.Check refuse is refused by their errors, ahead of all that is asked of fragments, and nothing changes.
func TestMayNotBe(t *testing.T) {
	b := newBoth(t, 1, 10)
	b.put4(3, four(part{id: 1, off: 1, n: 3}))
	wrong4 := map[api.Errno][]api.V4{
		api.ErrV4:   {{Off: -1}, {Off: 8192}, {Options: make([]byte, 3)}, {Options: make([]byte, 44)}, {Off: 8192, MF: true}, {Off: math.MinInt, MF: true}, {Off: math.MaxInt, Body: text(0, 8)}},
		api.ErrLong: {{Body: make([]byte, 65516)}, {Body: make([]byte, 65517), MF: true}, {Off: 8191, Body: make([]byte, 65516)}, four(part{id: 1, n: 65520, more: true})},
	}
	for want, l := range wrong4 {
		for _, v := range l {
			if _, is, e := b.put4(3, v); is || e != want {
				t.Errorf("%s: %t, %d; want %d", show4(v), is, e, want)
			}
		}
	}
	wrong6 := map[api.Errno][]api.V6{
		api.ErrV6:   {{}, {Proto: 17, ID: 1}, {Proto: 17, Off: 1}, {Proto: 17, More: true}, {Frag: true, Off: 8192}, {Frag: true, Off: -1, More: true}, {Frag: true, Label: 1 << 20}, {Frag: true, Heads: make([]api.Head, 9)}, {Frag: true, Off: math.MaxInt}, {Proto: 44}, {Proto: 60}},
		api.ErrLong: {{Proto: 17, Body: make([]byte, 65536)}, {Frag: true, Body: make([]byte, 65528)}, {Frag: true, Body: make([]byte, 65529), More: true}},
	}
	for want, l := range wrong6 {
		for _, v := range l {
			if _, is, e := b.put6(3, v); is || e != want {
				t.Errorf("%s: %t, %d; want %d", show6(v), is, e, want)
			}
		}
	}
	testWaits(b, 1, 3)
	testNext(b, 13, true)
}

// P15.2: with MF a Body has a multiple of 8 bytes, not 0; without it as many as you like. Nothing waits behind ErrPiece.
func TestPieces(t *testing.T) {
	each(t, func(t *testing.T, k kind) {
		for _, off := range []int{0, 1, 2, 100} {
			for n := range 34 {
				want := api.OK
				if n == 0 || n%8 != 0 {
					want = api.ErrPiece
				}
				b := newBoth(t, 1, 10)
				testPut(b, k, 0, part{off: off, n: n, more: true}, false, want)
				if want != api.OK {
					testWaits(b, 0, 0)
					testNext(b, 0, false)
				} else {
					testWaits(b, 1, n)
				}
				b = newBoth(t, 1, 10)
				testPut(b, k, 0, part{off: off, n: n}, off == 0, api.OK)
				if off > 0 {
					testWaits(b, 1, n)
				}
			}
		}
	})
}

// P15.2: bytes that end at 65535 and beyond, with and without MF.
func TestEnds(t *testing.T) {
	each(t, func(t *testing.T, k kind) {
		for _, c := range []struct {
			p    part
			want api.Errno
		}{
			{part{off: 8191, n: 0}, api.OK},
			{part{off: 8191, n: 6}, api.OK},
			{part{off: 8191, n: 7}, api.OK},
			{part{off: 8191, n: 8}, api.ErrPiece},
			{part{off: 8191, n: 9}, api.ErrPiece},
			{part{off: 8191, n: 8, more: true}, api.ErrPiece},
			{part{off: 8191, n: 16, more: true}, api.ErrPiece},
			{part{off: 8190, n: 8, more: true}, api.OK},
			{part{off: 8190, n: 16, more: true}, api.ErrPiece},
			{part{off: 8190, n: 15}, api.OK},
			{part{off: 8190, n: 16}, api.ErrPiece},
			{part{off: 100, n: 64735}, api.OK},
			{part{off: 100, n: 64736}, api.ErrPiece},
			{part{off: 100, n: 64728, more: true}, api.OK},
			{part{off: 100, n: 64736, more: true}, api.ErrPiece},
			{part{off: 8191, n: 65515}, api.ErrPiece},
		} {
			b := newBoth(t, 1, 10)
			testPut(b, k, 0, c.p, false, c.want)
			if c.want == api.OK {
				testWaits(b, 1, c.p.n)
			} else {
				testWaits(b, 0, 0)
			}
		}
	})
}

// P15.2: an IPv6 fragment that is a datagram of its own is whole at once, if it may wait at all.
func TestAtomic(t *testing.T) {
	b := newBoth(t, 2, 10)
	for _, n := range []int{0, 1, 7, 8, 9, 65527} {
		v := six(part{id: 9, n: n})
		v.Heads = []api.Head{}
		v.Class, v.Label = 7, 8
		want := v
		want.Frag, want.ID = false, 0
		if w, is, e := b.put6(0, v); !ipv6.Same(w, want) || !is || e != api.OK {
			t.Errorf("%d bytes: %s, %t, %d", n, show6(w), is, e)
		}
		testWaits(b, 0, 0)
	}
	k := kinds()[1]
	testPut(b, k, 1, part{id: 1, off: 1, n: 8, more: true}, false, api.OK)
	testPut(b, k, 1, part{id: 9, n: 5}, true, api.OK)
	testPut(b, k, 1, part{id: 2, off: 1, n: 8, more: true}, false, api.OK)
	testPut(b, k, 1, part{id: 9, n: 5}, false, api.ErrFull)
	testPut(b, k, 1, part{id: 9, n: 0}, false, api.ErrFull)
	// Of a datagram of which others wait behind its end it is none.
	testPut(b, k, 1, part{id: 1, n: 8}, false, api.ErrOverlap)
	testPut(b, k, 1, part{id: 2, n: 0}, false, api.ErrOverlap)
	testWaits(b, 0, 0)
}

// P15.2, P15.6: ErrFull at Most, of both kinds together; a fragment of a datagram that waits is taken then, and behind a whole one there is room again.
func TestFull(t *testing.T) {
	for _, most := range []int{1, 2, 3, 4096} {
		b := newBoth(t, most, 10)
		l := kinds()
		for i := range most {
			testPut(b, l[i%2], 0, part{id: i, off: 1, n: 8, more: true}, false, api.OK)
		}
		for i, k := range l {
			testPut(b, k, 5, part{id: most + 1, n: 8, more: true}, false, api.ErrFull)
			testPut(b, k, 5, part{id: most + 1, off: 3, n: 1}, false, api.ErrFull)
			testPut(b, k, 5, part{id: most + 1, n: 7, more: true}, false, api.ErrPiece)
			if i < most {
				testPut(b, k, 5, part{id: i, off: 2, n: 8, more: true}, false, api.OK)
				testPut(b, k, 5, part{id: i, off: 2, n: 8, more: true}, false, api.OK)
			}
		}
		testWaits(b, most, 8*most+8*min(2, most))
		testNext(b, 10, true)
		testPut(b, l[0], 6, part{id: 0, off: 3, n: 1}, false, api.OK)
		testPut(b, l[0], 6, part{id: 0, n: 8, more: true}, true, api.OK)
		testPut(b, l[0], 6, part{id: most + 1, n: 8, more: true}, false, api.OK)
		testPut(b, l[0], 6, part{id: most + 2, n: 8, more: true}, false, api.ErrFull)
		// Behind ErrOverlap, too.
		testPut(b, l[0], 6, part{id: most + 1, n: 16, more: true}, false, api.ErrOverlap)
		testPut(b, l[0], 6, part{id: most + 2, n: 8, more: true}, false, api.OK)
		testPut(b, l[0], 6, part{id: most + 3, n: 8, more: true}, false, api.ErrFull)
	}
}

// P15.2: of several errors the one that is named first is told.
func TestWhichFirst(t *testing.T) {
	b := newBoth(t, 1, 10)
	each(t, func(t *testing.T, k kind) {
		mayNot := api.ErrV4
		if k.name == "six" {
			mayNot = api.ErrV6
		}
		b := both{t, b.j, b.m}
		kinds()[0].put(b, 5, part{id: 1, off: 1, n: 8, more: true})
		testPut(b, k, 4, part{id: 2, off: 8192, n: 7, more: true}, false, api.ErrTime)
		testPut(b, k, 4, part{id: 2, off: 1, n: 7, more: true}, false, api.ErrTime)
		testPut(b, k, -1, part{id: 2, n: 8, more: true}, false, api.ErrTime)
		testPut(b, k, 5, part{id: 2, off: 8192, n: 65536, more: true}, false, mayNot)
		testPut(b, k, 5, part{id: 2, off: 1, n: 65535, more: true}, false, api.ErrLong)
		testPut(b, k, 5, part{id: 2, off: 8192, n: 7, more: true}, false, mayNot)
		testPut(b, k, 5, part{id: 2, off: 1, n: 7, more: true}, false, api.ErrPiece)
		testPut(b, k, 5, part{id: 2, off: 8191, n: 8}, false, api.ErrPiece)
		testPut(b, k, 5, part{id: 2, off: 1, n: 8, more: true}, false, api.ErrFull)
		// Of what waits: one that may not be as a fragment does not give it up, though it overlaps.
		kinds()[0].put(b, 5, part{id: 1, off: 1, n: 7, more: true})
		testWaits(b, 1, 8)
		kinds()[0].put(b, 5, part{id: 1, off: 1, n: 65535})
		testWaits(b, 1, 8)
	})
}

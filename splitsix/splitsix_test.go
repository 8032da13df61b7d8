package splitsix_test

import (
	"reflect"
	"testing"

	"ferryman/api"
	"ferryman/splitsix"
)

// testShape holds the fragments of a datagram against a shape, and against the plain way.
func testShape(t *testing.T, v api.V6, mtu int, want string) {
	t.Helper()
	if l, e := hold(t, v, mtu, 7); e != api.OK || shape(l) != want {
		t.Errorf("%s, MTU %d: %s, %d; want %s", show(v), mtu, shape(l), e, want)
	}
}

// testError holds Split and Count against an error.
func testError(t *testing.T, v api.V6, mtu int, want api.Errno) {
	t.Helper()
	hold(t, v, mtu, 7)
	if l, e := splitsix.Split(v, mtu, 7); l != nil || e != want {
		t.Errorf("%s, MTU %d: Split = %s, %d; want %d", show(v), mtu, shape(l), e, want)
	}
	if n, e := splitsix.Count(v, mtu); n != 0 || e != want {
		t.Errorf("%s, MTU %d: Count = %d, %d; want %d", show(v), mtu, n, e, want)
	}
}

// testFits holds Fits against an answer.
func testFits(t *testing.T, v api.V6, mtu int, want bool, wantE api.Errno) {
	t.Helper()
	if fits, e := splitsix.Fits(v, mtu); fits != want || e != wantE {
		t.Errorf("%s, MTU %d: Fits = %t, %d; want %t, %d", show(v), mtu, fits, e, want, wantE)
	}
}

// body is a datagram with so many bytes of Body, and nothing else.
func body(n int) api.V6 { return api.V6{Proto: 17, Body: someBytes(dice(), n)} }

// withHeads is a datagram with so many bytes of Heads and of Body.
func withHeads(heads, n int) api.V6 {
	v := body(n)
	v.Heads = someHeads(dice(), heads)
	return v
}

// P14.1, P14.2: the errors and limits have the numbers that the chapter names.
func TestNumbers(t *testing.T) {
	got := []int{int(api.ErrMTU), int(api.ErrArg), int(api.ErrSpace), int(api.ErrRange), int(api.ErrAgain), int(api.ErrLong), int(api.ErrV6), api.LeastMTU6, api.MaxPacket}
	if want := []int{131, 1, 141, 5, 140, 2, 54, 1280, 65535}; !reflect.DeepEqual(got, want) {
		t.Errorf("%d", got)
	}
}

// P14.1, P14.2: the chapter's example.
func TestExample(t *testing.T) {
	testShape(t, body(1300), 1280, "0:1232+ 154:68")
	testShape(t, body(1240), 1280, "1240")
	if b, e := splitsix.Bare(fragment(body(8), 1, 0, true)); !like(b, api.V6{}) || e != api.ErrAgain {
		t.Errorf("%s, %d", show(b), e)
	}
}

// P14.1: MTUs at their limits and beyond, of a datagram that fits and of one that does not.
func TestMTUs(t *testing.T) {
	small, long := body(1240), body(1241)
	testShape(t, small, 1280, "1240")
	testShape(t, small, 1281, "1240")
	testShape(t, small, 65535, "1240")
	testShape(t, long, 1280, "0:1232+ 154:9")
	testShape(t, long, 1281, "1241")
	testShape(t, long, 65535, "1241")
	others := []api.V6{small, long, body(0), fragment(body(1501), 3, 5, true), fragment(body(1500), 3, 8191, false), withHeads(4000, 65), fragment(withHeads(4000, 65), 1, 8191, true)}
	for _, mtu := range farMTUs {
		for _, v := range others {
			testError(t, v, mtu, api.ErrMTU)
			testFits(t, v, mtu, false, api.ErrMTU)
		}
	}
}

// wrongV6 are datagrams that may not be, with their errors.
func wrongV6() map[api.Errno][]api.V6 {
	r := dice()
	dest := func(n int) []api.Head { return []api.Head{{Kind: 60, Body: make([]byte, n)}} }
	return map[api.Errno][]api.V6{
		api.ErrV6: {
			{Proto: 17, Label: 1 << 20},
			{Proto: 17, Off: 1},
			{Proto: 17, ID: 1},
			{Proto: 17, More: true, Body: make([]byte, 1501)},
			{Proto: 0},
			{Proto: 43, Body: make([]byte, 2000)},
			{Proto: 44},
			{Proto: 60},
			{Proto: 17, Heads: dest(5)},
			{Proto: 17, Heads: dest(2054)},
			{Proto: 17, Heads: []api.Head{{Kind: 17, Body: make([]byte, 6)}}},
			{Proto: 17, Heads: []api.Head{{Kind: 44, Body: make([]byte, 6)}}},
			{Proto: 17, Heads: []api.Head{{Kind: 60, Body: make([]byte, 6)}, {Kind: 0, Body: make([]byte, 6)}}},
			{Proto: 17, Heads: append(someHeads(r, 8*2048), api.Head{Kind: 60, Body: make([]byte, 6)})},
			{Proto: 17, Heads: dest(3), Body: make([]byte, 70000)},
			fragment(api.V6{Proto: 17}, 1, -1, false),
			fragment(api.V6{Proto: 17}, 1, 8192, false),
			fragment(api.V6{Proto: 17, Body: make([]byte, 1501)}, 1, -1<<62, true),
			fragment(api.V6{Proto: 17, Body: make([]byte, 70000)}, 1, 1<<62, true),
		},
		api.ErrLong: {
			{Proto: 17, Body: make([]byte, 65536)},
			{Proto: 17, Body: make([]byte, 1<<20)},
			{Proto: 17, Heads: dest(6), Body: make([]byte, 65528)},
			fragment(api.V6{Proto: 17, Body: make([]byte, 65528)}, 1, 0, false),
			fragment(api.V6{Proto: 60, Body: make([]byte, 65529)}, 1, 8191, true),
		},
	}
}

// P14.1, P14.2: a datagram that may not be: its error is told first, whatever else there is.
func TestCheckIsFirst(t *testing.T) {
	for want, l := range wrongV6() {
		for _, v := range l {
			for _, mtu := range append([]int{1280, 1500, 65535}, farMTUs...) {
				testError(t, v, mtu, want)
				testFits(t, v, mtu, false, want)
			}
			if a, e := splitsix.Atomic(v, 9); !reflect.DeepEqual(a, api.V6{}) || e != want {
				t.Errorf("%s: Atomic = %s, %d; want %d", show(v), show(a), e, want)
			}
			if b, e := splitsix.Bare(v); !reflect.DeepEqual(b, api.V6{}) || e != want {
				t.Errorf("%s: Bare = %s, %d; want %d", show(v), show(b), e, want)
			}
			holdHeads(t, v, 9)
		}
	}
}

// P14.1: just mtu bytes fit, one more does not, with a fragment header and without.
func TestJustFits(t *testing.T) {
	r := dice()
	for _, mtu := range []int{1280, 1281, 1287, 1288, 1499, 1500, 9000, 65534, 65535} {
		for _, n := range []int{0, 8, 16, 64, 1200} {
			for more := -9; more <= 9; more++ {
				v := someV6(r, n, mtu-40-n+more)
				f := fragment(someV6(r, n, max(0, mtu-48-n+more)), r.Uint32(), 0, false)
				for _, v := range []api.V6{v, f} {
					testFits(t, v, mtu, plainSize(v) <= mtu, api.OK)
					l, e := hold(t, v, mtu, 3)
					if e != api.OK || more <= 0 && (len(l) != 1 || !like(l[0], v)) || more > 0 && len(l) < 2 {
						t.Errorf("%s, MTU %d: %s, %d", show(v), mtu, shape(l), e)
					}
				}
				g := fragment(v, 5, 8191, true)
				g.Body = f.Body
				testFits(t, g, mtu, plainSize(g) <= mtu, api.OK)
			}
		}
	}
	// What fits without a fragment header by less than one more has no such header.
	testShape(t, body(1233), 1280, "1233")
	testShape(t, fragment(body(1233), 1, 0, false), 1280, "0:1232+ 154:1")
	testShape(t, fragment(body(1232), 1, 0, false), 1280, "0:1232")
}

// P14.1: Heads so long that there is the least room, none, and more bytes of heads than the MTU.
func TestSpace(t *testing.T) {
	for mtu := 1280; mtu < 1288; mtu++ {
		// 48 and 1224 bytes of heads leave 8 to 15 bytes.
		v := fragment(withHeads(1224, 8+8+mtu-1280), 5, 0, false)
		l, e := hold(t, v, mtu, 7)
		if want := 8 + mtu - 1280; e != api.OK || len(l) != 2 || len(l[0].Body) != 8 || len(l[1].Body) != want {
			t.Errorf("%s, MTU %d: %s, %d; want 8 and %d", show(v), mtu, shape(l), e, want)
		}
		// 1232 leave 0 to 7, though as many and a fragment header's 8 fit where there is none.
		v = withHeads(1232, 8+mtu-1280)
		if l, e := hold(t, v, mtu, 7); e != api.OK || len(l) != 1 || l[0].Frag {
			t.Errorf("%s, MTU %d: %s, %d", show(v), mtu, shape(l), e)
		}
		testError(t, withHeads(1232, 9+mtu-1280), mtu, api.ErrSpace)
		testError(t, fragment(withHeads(1232, 1+mtu-1280), 5, 0, false), mtu, api.ErrSpace)
		// More heads than the MTU.
		for _, n := range []int{1240, 1248, 1256, 2048, 16384} {
			testError(t, fragment(withHeads(n, 0), 1, 0, true), mtu, api.ErrSpace)
			testError(t, withHeads(n, 1+mtu-1280), mtu, api.ErrSpace)
			testError(t, withHeads(n, 20000), mtu, api.ErrSpace)
		}
	}
	testShape(t, withHeads(1224, 24), 1280, "0:8+ 1:8+ 2:8")
	testShape(t, withHeads(1224, 25), 1280, "0:8+ 1:8+ 2:8+ 3:1")
	testShape(t, withHeads(1224, 31), 1287, "0:8+ 1:8+ 2:15")
	testShape(t, withHeads(1216, 33), 1280, "0:16+ 2:16+ 4:1")
	testShape(t, fragment(withHeads(1232, 0), 5, 0, true), 1280, "0:0+")
}

// P14.1: which error is told first: ErrArg, then ErrSpace, ErrRange; none of them where it fits.
func TestErrorsInOrder(t *testing.T) {
	for bits := range 8 {
		v, want := withHeads(1000, 1304), api.OK
		v = fragment(v, 5, 0, false)
		if bits&4 != 0 {
			v.Off, want = 8191, api.ErrRange
		}
		if bits&2 != 0 {
			v.Heads, want = someHeads(dice(), 1232), api.ErrSpace
		}
		if bits&1 != 0 {
			v.More, v.Body, want = true, someBytes(dice(), 1305), api.ErrArg
		}
		if want != api.OK {
			testError(t, v, 1280, want)
		} else if l, e := hold(t, v, 1280, 7); len(l) < 2 || e != api.OK {
			t.Errorf("%s: %s, %d", show(v), shape(l), e)
		}
		testError(t, v, 1279, api.ErrMTU)
		testError(t, v, 65536, api.ErrMTU)
		for _, mtu := range []int{plainSize(v), 65535} {
			l, e := hold(t, v, mtu, 7)
			if e != api.OK || len(l) != 1 || !like(l[0], v) {
				t.Errorf("%s, MTU %d: %s, %d", show(v), mtu, shape(l), e)
			}
		}
	}
}

// P14.1: with More the Body is a multiple of 8; without it it may be any.
func TestMoreAndEights(t *testing.T) {
	for size := 1225; size < 1330; size++ {
		v := fragment(body(size), 5, 7, true)
		if size <= 1232 {
			if l, e := hold(t, v, 1280, 7); len(l) != 1 || e != api.OK {
				t.Errorf("%s: %s, %d", show(v), shape(l), e)
			}
		} else if size%8 != 0 {
			testError(t, v, 1280, api.ErrArg)
		} else if l, e := hold(t, v, 1280, 7); len(l) != 2 || e != api.OK || !l[1].More {
			t.Errorf("%s: %s, %d", show(v), shape(l), e)
		}
		v.More = false
		if l, e := hold(t, v, 1280, 7); e != api.OK || l[len(l)-1].More {
			t.Errorf("%s: %s, %d", show(v), shape(l), e)
		}
	}
}

// P14.1: a datagram that is a fragment itself: Off goes on from its own, the last one keeps its More, and its ID stays, whatever id is handed in.
func TestFragmentItself(t *testing.T) {
	testShape(t, fragment(body(2480), 5, 0, true), 1280, "0:1232+ 154:1232+ 308:16+")
	testShape(t, fragment(body(2480), 5, 100, true), 1280, "100:1232+ 254:1232+ 408:16+")
	testShape(t, fragment(body(2480), 5, 100, false), 1280, "100:1232+ 254:1232+ 408:16")
	testShape(t, fragment(body(2475), 5, 0, false), 1280, "0:1232+ 154:1232+ 308:11")
	testShape(t, fragment(body(5), 5, 3, true), 1280, "3:5+")
	for _, own := range []uint32{0, 1, 5, 1<<32 - 1} {
		for _, id := range []uint32{0, 1, 7, 1<<32 - 1} {
			for _, v := range []api.V6{fragment(body(2480), own, 0, false), fragment(body(2480), own, 9, true), fragment(body(100), own, 9, true)} {
				l, _ := hold(t, v, 1280, id)
				for _, f := range l {
					if f.ID != own || !f.Frag {
						t.Errorf("ID %d, id %d: %d, %t", own, id, f.ID, f.Frag)
					}
				}
			}
			l, _ := hold(t, body(2480), 1280, id)
			for _, f := range l {
				if f.ID != id || !f.Frag {
					t.Errorf("id %d: %d, %t", id, f.ID, f.Frag)
				}
			}
			if l, _ := hold(t, body(100), 1280, id); l[0].ID != 0 || l[0].Frag {
				t.Errorf("id %d: %s", id, show(l[0]))
			}
		}
	}
	// What stands behind a fragment header may be a head: it is part of the Body.
	v := fragment(body(1300), 5, 0, false)
	v.Proto = api.ProtoDest
	testShape(t, v, 1280, "0:1232+ 154:68")
}

// P14.1: the last Off comes to 8191, and to 8192.
func TestOffAtItsLimit(t *testing.T) {
	testShape(t, fragment(body(1233), 5, 8191-154, false), 1280, "8037:1232+ 8191:1")
	testError(t, fragment(body(1233), 5, 8192-154, false), 1280, api.ErrRange)
	testShape(t, fragment(body(2472), 5, 8191-308, true), 1280, "7883:1232+ 8037:1232+ 8191:8+")
	testError(t, fragment(body(2472), 5, 8192-308, true), 1280, api.ErrRange)
	testShape(t, fragment(body(1232), 5, 8191, false), 1280, "8191:1232")
	testError(t, fragment(body(1233), 5, 8191, false), 1280, api.ErrRange)
	// What counts is where the last one begins: it may end far beyond.
	testShape(t, fragment(body(2464), 5, 8191-154, false), 1280, "8037:1232+ 8191:1232")
	testError(t, fragment(body(2465), 5, 8191-154, false), 1280, api.ErrRange)
	testShape(t, fragment(body(2465), 5, 8191-154, false), 1281, "8037:1232+ 8191:1233")
	testError(t, fragment(body(65527), 5, 8191, false), 65535, api.ErrRange)
	// One behind the other, many of them: the last is refused where all others are not.
	v := fragment(withHeads(1224, 8*100), 5, 8191-99, false)
	if l, e := hold(t, v, 1280, 7); len(l) != 100 || e != api.OK || l[99].Off != 8191 {
		t.Errorf("%d fragments, %d", len(l), e)
	}
	v.Off++
	testError(t, v, 1280, api.ErrRange)
	r := dice()
	for off := 7900; off <= 8191; off++ {
		for range 4 {
			hold(t, fragment(someV6(r, 8*r.IntN(8), r.IntN(4000)), 5, off, false), 1280+r.IntN(40), 7)
		}
	}
}

// P14.1, P14.4: a last part of just a room, one byte less and one more, and what the last one takes beyond the room where the MTU leaves bytes over.
func TestLastPart(t *testing.T) {
	testShape(t, body(2463), 1280, "0:1232+ 154:1231")
	testShape(t, body(2464), 1280, "0:1232+ 154:1232")
	testShape(t, body(2465), 1280, "0:1232+ 154:1232+ 308:1")
	testShape(t, body(2465), 1281, "0:1232+ 154:1233")
	testShape(t, body(2466), 1281, "0:1232+ 154:1232+ 308:2")
	testShape(t, body(2471), 1287, "0:1232+ 154:1239")
	testShape(t, body(2472), 1287, "0:1232+ 154:1232+ 308:8")
	testShape(t, body(2472), 1288, "0:1240+ 155:1232")
	testShape(t, fragment(body(1239), 5, 2, false), 1287, "2:1239")
	testShape(t, fragment(body(1240), 5, 2, true), 1287, "2:1232+ 156:8+")
	for mtu := 1280; mtu <= 1300; mtu++ {
		for n := 0; n <= 24; n += 8 {
			for size := 1190; size <= 1270; size++ {
				hold(t, withHeads(n, size), mtu, 7)
				hold(t, withHeads(n, 2*size), mtu, 7)
				hold(t, fragment(withHeads(n, size+1240), 5, 3, size%16 == 8), mtu, 7)
			}
		}
	}
}

// P14.1: the longest datagrams there are, for the least MTU, for usual ones and for the greatest.
func TestLongest(t *testing.T) {
	r := dice()
	for _, n := range []int{0, 8, 400, 1224} {
		for _, mtu := range []int{1280, 1281, 1500, 9000, 32768, 65527, 65534, 65535} {
			if mtu < 1300 && n > 1000 {
				continue
			}
			if l, e := hold(t, someV6(r, n, 65535-n), mtu, 7); e != api.OK || len(l) < 2 {
				t.Errorf("%d bytes of heads, MTU %d: %d", n, mtu, e)
			}
			if l, e := hold(t, fragment(someV6(r, n, 65527-n), 1, 0, false), mtu, 7); e != api.OK || len(l) < 2 {
				t.Errorf("%d bytes of heads and Frag, MTU %d: %d", n, mtu, e)
			}
		}
	}
	// A datagram has up to 40 bytes more than the greatest MTU.
	testShape(t, body(65495), 65535, "65495")
	testShape(t, body(65496), 65535, "0:65480+ 8185:16")
	testShape(t, body(65535), 65535, "0:65480+ 8185:55")
	testShape(t, fragment(body(65527), 1, 0, false), 65535, "0:65480+ 8185:47")
	// As many fragments as there may be of it: 8 bytes in each.
	if l, e := hold(t, withHeads(1224, 64311), 1280, 7); len(l) != 8039 || e != api.OK {
		t.Errorf("%d fragments, %d", len(l), e)
	}
	// The longest heads of all.
	if n, e := splitsix.Count(withHeads(16384, 49151), 16440); n != 6144 || e != api.OK {
		t.Errorf("%d fragments, %d", n, e)
	}
	testError(t, withHeads(16384, 49151), 16439, api.ErrSpace)
	testShape(t, withHeads(16384, 49151), 65535, "0:49096+ 6137:55")
}

// P14.1: each fragment has all the other fields of the datagram, its Heads among them.
func TestOtherFields(t *testing.T) {
	v := api.V6{
		Class: 0xb8, Label: 0xfffff, Hop: 1, Src: api.Addr6{0x20, 1, 0xd, 0xb8, 15: 1}, Dst: api.Addr6{0x20, 1, 0xd, 0xb8, 15: 2}, Proto: 250,
		Heads: []api.Head{{Kind: 0, Body: []byte{1, 2, 3, 4, 5, 6}}, {Kind: 43, Body: []byte{6, 5, 4, 3, 2, 1}}, {Kind: 60, Body: make([]byte, 14)}},
		Body:  someBytes(dice(), 3000),
	}
	l, e := splitsix.Split(v, 1280, 0xdeadbeef)
	if len(l) != 3 || e != api.OK {
		t.Fatalf("%s, %d", shape(l), e)
	}
	for i, f := range l {
		want := fragment(v, 0xdeadbeef, 150*i, i < 2)
		want.Body = v.Body[1200*i : min(1200*i+1200, 3000)]
		if !like(f, want) {
			t.Errorf("fragment %d: %+v; want %+v", i, f, want)
		}
	}
	testShape(t, api.V6{Proto: 59}, 1280, "0")
	testShape(t, fragment(api.V6{Proto: 0}, 0, 0, false), 1280, "0:0")
	testShape(t, fragment(api.V6{Proto: 44}, 1, 8191, true), 1280, "8191:0+")
}

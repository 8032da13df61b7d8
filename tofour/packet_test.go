package tofour_test

import (
	"bytes"
	"testing"

	"ferryman/api"
	"ferryman/tofour"
)

// wantPacket holds Packet against a Body, and against the plain way.
func wantPacket(t *testing.T, v api.V6, body []byte) {
	t.Helper()
	if w, e := holdPacket(t, v, outer, inner); e != api.OK || !bytes.Equal(w.Body, body) {
		t.Errorf("%s: %s, %d; want %s", show6(v), show4(w), e, cut(body))
	}
}

// wantNoPacket holds Packet against an error, and against the plain way.
func wantNoPacket(t *testing.T, v api.V6, want api.Errno) {
	t.Helper()
	if w, e := holdPacket(t, v, outer, inner); e != want || !like(w, api.V4{}) {
		t.Errorf("%s: %s, %d; want %d", show6(v), show4(w), e, want)
	}
}

// P18.2, P18.6, P18.7: bodies that were reckoned apart from all of this.
func TestBytes(t *testing.T) {
	for _, c := range []struct {
		proto     byte
		was, want string
	}{
		{17, "13880035000b3720686921", "13880035000b7655686921"},
		{6, "138800500000000100000002500203e86c8e0000", "138800500000000100000002500203e8abc30000"},
		{58, "80008fc200010002616263", "0800339a00010002616263"},
		{47, "0000080045", "0000080045"},
		{59, "", ""},
	} {
		wantPacket(t, datagram(c.proto, unhex(c.was)), unhex(c.want))
		wantPacket(t, whole(datagram(c.proto, unhex(c.was))), unhex(c.want))
	}
}

// P18.2: the header, and each of its fields at its place.
func TestHeader(t *testing.T) {
	v := api.V6{Class: 0xb8, Label: 0x12345, Hop: 64, Proto: 99, Src: ends6.Src, Dst: ends6.Dst, Body: []byte("body")}
	w := api.V4{TOS: 0xb8, DF: true, TTL: 64, Proto: 99, Src: outer.Src, Dst: outer.Dst, Body: []byte("body")}
	for i, c := range []struct {
		set  func(v *api.V6)
		want func(w *api.V4)
	}{
		{func(v *api.V6) {}, func(w *api.V4) {}},
		{func(v *api.V6) { v.Class = 1 }, func(w *api.V4) { w.TOS = 1 }},
		{func(v *api.V6) { v.Class = 0xff }, func(w *api.V4) { w.TOS = 0xff }},
		{func(v *api.V6) { v.Label = 0 }, func(w *api.V4) {}},
		{func(v *api.V6) { v.Label = 0xfffff }, func(w *api.V4) {}},
		{func(v *api.V6) { v.Hop = 0 }, func(w *api.V4) { w.TTL = 0 }},
		{func(v *api.V6) { v.Hop = 1 }, func(w *api.V4) { w.TTL = 1 }},
		{func(v *api.V6) { v.Hop = 255 }, func(w *api.V4) { w.TTL = 255 }},
		{func(v *api.V6) { v.Src, v.Dst = v.Dst, v.Src }, func(w *api.V4) {}},
		{func(v *api.V6) { v.Body = nil }, func(w *api.V4) { w.Body = nil }},
		{func(v *api.V6) { v.Heads = []api.Head{head(60, 3, 9)} }, func(w *api.V4) {}},
		{func(v *api.V6) { v.Proto = 59 }, func(w *api.V4) { w.Proto = 59 }},
		{func(v *api.V6) { v.Proto = 4 }, func(w *api.V4) { w.Proto = 4 }},
		{func(v *api.V6) { v.Frag = true }, func(w *api.V4) { w.DF = false }},
		{func(v *api.V6) { v.Frag, v.ID = true, 0xffff }, func(w *api.V4) { w.DF, w.ID = false, 0xffff }},
		{func(v *api.V6) { v.Frag, v.ID = true, 0x10000 }, func(w *api.V4) { w.DF = false }},
		{func(v *api.V6) { v.Frag, v.ID = true, 0xabcd1234 }, func(w *api.V4) { w.DF, w.ID = false, 0x1234 }},
		{func(v *api.V6) { v.Frag, v.ID, v.More = true, 0x10001, true }, func(w *api.V4) { w.DF, w.ID, w.MF = false, 1, true }},
		{func(v *api.V6) { v.Frag, v.ID, v.Off = true, 0xffffffff, 1 }, func(w *api.V4) { w.DF, w.ID, w.Off = false, 0xffff, 1 }},
		{func(v *api.V6) { v.Frag, v.Off = true, 8191 }, func(w *api.V4) { w.DF, w.Off = false, 8191 }},
		{func(v *api.V6) { v.Frag, v.ID, v.Off, v.More = true, 7, 77, true }, func(w *api.V4) { w.DF, w.ID, w.Off, w.MF = false, 7, 77, true }},
	} {
		a, b := v, w
		c.set(&a)
		c.want(&b)
		if got, e := holdPacket(t, a, outer, inner); !like(got, b) || e != api.OK {
			t.Errorf("%d: %s: %s, %d", i, show6(a), show4(got), e)
		}
	}
}

// P18.2: each protocol, without a fragment header and with each kind of one.
func TestProtocols(t *testing.T) {
	body := make([]byte, 40)
	body[6], body[16] = 1, 1
	for proto := range 256 {
		for _, v := range kinds(datagram(byte(proto), body)) {
			switch {
			case !v.Frag && isOne(byte(proto), 0, 43, 44, 60):
				wantNoPacket(t, v, api.ErrV6)
			case strange(byte(proto)):
				wantNoPacket(t, v, 171)
			case proto == 58:
				holdPacket(t, v, outer, inner)
			default:
				w, e := holdPacket(t, v, outer, inner)
				if e != api.OK || int(w.Proto) != proto {
					t.Errorf("%s: %s, %d", show6(v), show4(w), e)
				}
				if carried := (proto == 6 || proto == 17) && v.Off == 0; bytes.Equal(w.Body, body) == carried {
					t.Errorf("%s: %s", show6(v), show4(w))
				}
			}
		}
	}
}

// P18.2: heads are left out, but a routing header that is not at its end is refused.
func TestRoutes(t *testing.T) {
	body := unhex("13880035000b3720686921")
	for _, c := range []struct {
		heads []api.Head
		e     api.Errno
	}{
		{[]api.Head{head(0, 1, 0)}, api.OK},
		{[]api.Head{head(0, 256, 255)}, api.OK},
		{[]api.Head{head(60, 1, 1)}, api.OK},
		{[]api.Head{head(60, 3, 255)}, api.OK},
		{[]api.Head{head(43, 1, 0)}, api.OK},
		{[]api.Head{head(43, 256, 0)}, api.OK},
		{[]api.Head{head(43, 1, 1)}, 170},
		{[]api.Head{head(43, 1, 128)}, 170},
		{[]api.Head{head(43, 3, 255)}, 170},
		{[]api.Head{head(43, 256, 2)}, 170},
		{[]api.Head{head(0, 1, 1), head(43, 1, 0), head(60, 1, 1)}, api.OK},
		{[]api.Head{head(0, 1, 1), head(43, 1, 1), head(60, 1, 1)}, 170},
		{[]api.Head{head(43, 1, 0), head(43, 1, 1)}, 170},
		{[]api.Head{head(43, 1, 1), head(43, 1, 0)}, 170},
		{[]api.Head{head(60, 1, 0), head(60, 1, 0), head(60, 1, 0), head(60, 1, 0), head(60, 1, 0), head(60, 1, 0), head(60, 1, 0), head(43, 1, 0)}, api.OK},
		{[]api.Head{head(60, 1, 0), head(60, 1, 0), head(60, 1, 0), head(60, 1, 0), head(60, 1, 0), head(60, 1, 0), head(60, 1, 0), head(43, 1, 1)}, 170},
		{[]api.Head{{Kind: 43, Body: []byte{1, 0, 1, 1, 1, 1}}}, api.OK},
		{[]api.Head{{Kind: 43, Body: []byte{0, 1, 0, 0, 0, 0}}}, 170},
		// Heads that may not be, a routing header of one byte or none among them.
		{[]api.Head{{Kind: 43}}, api.ErrV6},
		{[]api.Head{{Kind: 43, Body: []byte{}}}, api.ErrV6},
		{[]api.Head{{Kind: 43, Body: []byte{1}}}, api.ErrV6},
		{[]api.Head{{Kind: 43, Body: []byte{0, 1}}}, api.ErrV6},
		{[]api.Head{{Kind: 43, Body: []byte{0, 1, 0, 0, 0, 0, 0}}}, api.ErrV6},
		{[]api.Head{{Kind: 43, Body: make([]byte, 2054)}}, api.ErrV6},
		{[]api.Head{head(43, 1, 1), head(0, 1, 1)}, api.ErrV6},
		{[]api.Head{head(43, 1, 1), head(44, 1, 1)}, api.ErrV6},
		{[]api.Head{head(43, 1, 1), {Kind: 60, Body: []byte{1}}}, api.ErrV6},
		{make([]api.Head, 9), api.ErrV6},
	} {
		for _, v := range kinds(withHeads(datagram(17, body), c.heads...)) {
			if c.e != api.OK {
				wantNoPacket(t, v, c.e)
				continue
			}
			bare := v
			bare.Heads = nil
			want, _ := plainPacket(bare, outer, inner)
			if w, e := holdPacket(t, v, outer, inner); e != api.OK || !like(w, want) {
				t.Errorf("%s: %s, %d; want %s", show6(v), show4(w), e, show4(want))
			}
		}
	}
}

// P18.2: bodies of TCP and UDP of each length around their headers', without a fragment header and with each kind of one.
func TestShortBodies(t *testing.T) {
	b := bytes.Repeat([]byte{0x5a}, 30)
	for _, c := range []struct {
		proto byte
		least int
	}{{6, 20}, {17, 8}, {47, 0}} {
		for n := range b {
			for _, v := range kinds(datagram(c.proto, b[:n])) {
				if n < c.least && v.Off == 0 {
					wantNoPacket(t, v, 173)
					continue
				}
				w, e := holdPacket(t, v, outer, inner)
				if same := c.proto == 47 || v.Off > 0; e != api.OK || len(w.Body) != n || bytes.Equal(w.Body, b[:n]) != same {
					t.Errorf("%s: %s, %d", show6(v), show4(w), e)
				}
			}
		}
	}
}

// P18.2: a UDP checksum 0 is refused, whatever length is said, but of a fragment that does not hold it; one of TCP is a number as any other.
func TestNoChecksum(t *testing.T) {
	for n := range 40 {
		b := bytes.Repeat([]byte{0xc3}, n)
		if n >= 8 {
			b[6], b[7] = 0, 0
		}
		for _, said := range []int{0, 8, n, n + 1, 65535} {
			if n >= 6 {
				b = setNumber(b, 4, said)
			}
			for _, v := range kinds(datagram(17, b)) {
				switch {
				case v.Off > 0:
					wantPacket(t, v, b)
				case n < 8:
					wantNoPacket(t, v, 173)
				default:
					wantNoPacket(t, v, 172)
				}
			}
		}
	}
	tcp := setNumber(bytes.Repeat([]byte{0xc3}, 20), 16, 0)
	wantPacket(t, datagram(6, tcp), setNumber(tcp, 16, plainCarried(0, ends6, outer, false)))
}

// P18.2: of a UDP checksum that is not 0, in either byte, no length is asked.
func TestLengthNotAsked(t *testing.T) {
	for _, check := range []int{1, 255, 256, 0x8000, 65535} {
		for _, said := range []int{0, 8, 12, 65535} {
			v := datagram(17, setNumber(setNumber(make([]byte, 12), 6, check), 4, said))
			for _, v := range []api.V6{v, whole(v), fragment(v, 0, true)} {
				wantPacket(t, v, setNumber(v.Body, 6, plainCarried(check, ends6, outer, true)))
			}
		}
	}
}

// P18.2: a checksum that becomes 0 is 65535 of UDP, 0 of TCP; each checksum there is.
func TestChecks(t *testing.T) {
	zeros := 0
	for check := range 65536 {
		for _, proto := range []byte{6, 17} {
			if proto == 17 && check == 0 {
				continue
			}
			v := datagram(proto, setNumber(bytes.Repeat([]byte{9}, 20), checkAt(proto), check))
			w, e := holdPacket(t, v, outer, inner)
			if e != api.OK {
				t.Fatalf("protocol %d, %x: %d", proto, check, e)
			}
			got := number(w.Body[checkAt(proto):][:2])
			if plainCarried(check, ends6, outer, false) == 0 {
				zeros++
				if want := map[byte]int{6: 0, 17: 65535}[proto]; got != want {
					t.Errorf("protocol %d, %x: %x", proto, check, got)
				}
			}
		}
	}
	if zeros < 2 {
		t.Errorf("only %d became 0", zeros)
	}
}

// P18.2: the ends of which a checksum tells: each bit of each of them.
func TestEnds(t *testing.T) {
	tcp := datagram(6, rightBody(6, ends6, bytes.Repeat([]byte{7}, 24)))
	udp := datagram(17, rightBody(17, ends6, bytes.Repeat([]byte{7}, 11)))
	ask := message(128, 0, 5, []byte("abc"))
	for i := range 128 {
		for _, v := range []api.V6{tcp, udp, ask, fragment(tcp, 0, true), fragment(tcp, 3, true)} {
			a, b := outer, outer
			a.Src[i/8%4] ^= 1 << (i % 8)
			b.Dst[i/8%4] ^= 1 << (i % 8)
			holdPacket(t, v, a, inner)
			holdPacket(t, v, b, inner)
			v.Src[i/8] ^= 1 << (i % 8)
			holdPacket(t, v, outer, inner)
			v.Dst[i/8] ^= 1 << (i % 8)
			holdPacket(t, v, outer, inner)
			holdPacket(t, v, api.Ends4{}, api.Ends4{})
		}
	}
}

// P18.2: bodies as long as may be, and one more, with fragment headers and without; those that IPv6 may have and IPv4 not among them.
func TestLong(t *testing.T) {
	r := dice()
	for _, proto := range []byte{6, 17, 47, 58} {
		for _, n := range []int{65514, 65515, 65516, 65526, 65527, 65528, 65534, 65535, 65536, 65537, 131072} {
			body := someBytes(r, n)
			if body = setNumber(body, 6, 5); proto == 58 {
				body[0] = 128
			}
			for _, v := range kinds(datagram(proto, body)) {
				if proto == 58 {
					v.Body = rightBody(58, ends6, body)
				}
				want := api.OK
				switch {
				case n+ahead(v) > 65535:
					want = api.ErrLong
				case proto == 58 && (v.More || v.Off > 0):
					want = api.ErrFrag
				case n > 65515:
					want = api.ErrLong
				}
				if w, e := holdPacket(t, v, outer, inner); e != want || e == api.OK && len(w.Body) != n {
					t.Errorf("%s: %d bytes, %d; want %d", show6(v), len(w.Body), e, want)
				}
			}
		}
	}
}

// P18.2: with heads a Body may be less long over IPv6.
func TestLongHeads(t *testing.T) {
	heads := []api.Head{head(0, 256, 1), head(60, 3, 1)}
	for _, n := range []int{65535 - 2072 - 8, 65535 - 2072 - 7, 65535 - 2072, 65535 - 2071} {
		v := withHeads(datagram(47, make([]byte, n)), heads...)
		if n+2072 > 65535 {
			wantNoPacket(t, v, api.ErrLong)
		} else {
			wantPacket(t, v, v.Body)
		}
		if v = fragment(v, 3, true); n+2080 > 65535 {
			wantNoPacket(t, v, api.ErrLong)
		} else {
			wantPacket(t, v, v.Body)
		}
	}
}

// P18.2: datagrams that may not be, ahead of all else.
func TestMayNotBe(t *testing.T) {
	for _, proto := range []byte{0, 1, 6, 17, 47, 58} {
		bad := withHeads(datagram(proto, nil), head(43, 1, 1))
		for _, off := range []int{-1, 8192, 1 << 40, -1 << 62, 1<<63 - 1} {
			v := fragment(bad, off, false)
			wantNoPacket(t, v, api.ErrV6)
			v.Body = make([]byte, 70000)
			wantNoPacket(t, v, api.ErrV6)
		}
		for i, set := range []func(v *api.V6){
			func(v *api.V6) { v.ID = 1 },
			func(v *api.V6) { v.Off = 1 },
			func(v *api.V6) { v.More = true },
			func(v *api.V6) { v.Label = 1 << 20 },
			func(v *api.V6) { v.Label = 1<<32 - 1 },
			func(v *api.V6) { v.Heads = append(v.Heads, head(0, 1, 0)) },
			func(v *api.V6) { v.Heads = append(v.Heads, make([]api.Head, 8)...) },
		} {
			v := bad
			set(&v)
			if w, e := tofour.Packet(v, outer, inner); e != api.ErrV6 || !like(w, api.V4{}) {
				t.Errorf("%d: %s: %s, %d", i, show6(v), show4(w), e)
			}
			holdPacket(t, v, outer, inner)
		}
	}
}

// P18.2, rule 2: which error is told first: each one with all that come behind it.
func TestOrder(t *testing.T) {
	route, end := head(43, 1, 1), head(43, 1, 0)
	long := make([]byte, 65536)
	wrong := message(4, 2, 0, []byte("no packet"))
	wrong.Body = setNumber(wrong.Body, 2, 5)
	for i, c := range []struct {
		v api.V6
		e api.Errno
	}{
		{withHeads(fragment(datagram(0, long), 8192, false), route), api.ErrV6},
		{withHeads(whole(datagram(0, long)), route), api.ErrLong},
		{withHeads(whole(datagram(0, nil)), route), api.ErrRoute},
		{withHeads(whole(datagram(60, nil)), end), api.ErrNoSide},
		{withHeads(datagram(1, nil), route), api.ErrRoute},
		{withHeads(datagram(1, long[:65535-8]), end), api.ErrNoSide},
		{withHeads(datagram(6, nil), route), api.ErrRoute},
		{withHeads(datagram(17, make([]byte, 8)), route), api.ErrRoute},
		{withHeads(fragment(datagram(58, nil), 0, true), route), api.ErrRoute},
		{fragment(datagram(58, nil), 0, true), api.ErrFrag},
		{fragment(wrong, 1, false), api.ErrFrag},
		{datagram(58, wrong.Body[:7]), api.ErrShortIcmp},
		{wrong, api.ErrSumIcmp},
		{message(4, 2, 0, []byte("no packet")), api.ErrIcmp},
		{message(4, 1, 0, []byte("no packet")), api.ErrInner},
		{datagram(17, long[:65535]), api.ErrZero},
		{datagram(17, long[:65516]), api.ErrZero},
		{fragment(datagram(17, long[:65516]), 1, false), api.ErrLong},
		{datagram(58, long[:65535]), api.ErrSumIcmp},
		{message(133, 0, 0, long[:65520]), api.ErrIcmp},
		{message(1, 0, 0, long[:65520]), api.ErrInner},
		{message(128, 0, 0, long[:65520]), api.ErrLong},
	} {
		if w, e := holdPacket(t, c.v, outer, inner); e != c.e {
			t.Errorf("%d: %s: %s, %d; want %d", i, show6(c.v), show4(w), e, c.e)
		}
	}
}

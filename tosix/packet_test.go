package tosix_test

import (
	"bytes"
	"testing"

	"ferryman/api"
	"ferryman/tosix"
)

// wantPacket holds Packet against a Body, and against the plain way.
func wantPacket(t *testing.T, v api.V4, body []byte) {
	t.Helper()
	if w, e := holdPacket(t, v, outer, inner); e != api.OK || !bytes.Equal(w.Body, body) {
		t.Errorf("%s: %s, %d; want %s", show4(v), show6(w), e, cut(body))
	}
}

// wantNoPacket holds Packet against an error, and against the plain way.
func wantNoPacket(t *testing.T, v api.V4, want api.Errno) {
	t.Helper()
	if w, e := holdPacket(t, v, outer, inner); e != want || !like(w, api.V6{}) {
		t.Errorf("%s: %s, %d; want %d", show4(v), show6(w), e, want)
	}
}

// P17.2, P17.6, P17.7: bodies that were reckoned apart from all of this, the chapter's example among them.
func TestBytes(t *testing.T) {
	for _, c := range []struct {
		proto     byte
		was, want string
	}{
		{17, "13880035000b4eaf686921", "13880035000b720f686921"},
		{17, "13880035000b0000686921", "13880035000b720f686921"},
		{6, "138800500000000100000002500203e8841d0000", "138800500000000100000002500203e8a77d0000"},
		{1, "0800339a00010002616263", "8000cab100010002616263"},
		{47, "0000080045", "0000080045"},
	} {
		wantPacket(t, datagram(c.proto, unhex(c.was)), unhex(c.want))
	}
}

// P17.2: the header, and each of its fields at its place.
func TestHeader(t *testing.T) {
	v := api.V4{TOS: 0xb8, ID: 0x1234, TTL: 64, Proto: 99, Src: ends4.Src, Dst: ends4.Dst, Body: []byte("body")}
	w := api.V6{Class: 0xb8, Hop: 64, Src: outer.Src, Dst: outer.Dst, Proto: 99, Body: []byte("body")}
	for i, c := range []struct {
		set  func(v *api.V4)
		want func(w *api.V6)
	}{
		{func(v *api.V4) {}, func(w *api.V6) {}},
		{func(v *api.V4) { v.TOS = 1 }, func(w *api.V6) { w.Class = 1 }},
		{func(v *api.V4) { v.TOS = 0xff }, func(w *api.V6) { w.Class = 0xff }},
		{func(v *api.V4) { v.ID = 0xffff }, func(w *api.V6) {}},
		{func(v *api.V4) { v.DF = true }, func(w *api.V6) {}},
		{func(v *api.V4) { v.TTL = 0 }, func(w *api.V6) { w.Hop = 0 }},
		{func(v *api.V4) { v.TTL = 1 }, func(w *api.V6) { w.Hop = 1 }},
		{func(v *api.V4) { v.TTL = 255 }, func(w *api.V6) { w.Hop = 255 }},
		{func(v *api.V4) { v.Src, v.Dst = v.Dst, v.Src }, func(w *api.V6) {}},
		{func(v *api.V4) { v.Body = nil }, func(w *api.V6) { w.Body = nil }},
		{func(v *api.V4) { v.Options = []byte{7, 3, 4, 0} }, func(w *api.V6) {}},
		{func(v *api.V4) { v.MF = true }, func(w *api.V6) { w.Frag, w.ID, w.More = true, 0x1234, true }},
		{func(v *api.V4) { v.MF, v.DF = true, true }, func(w *api.V6) { w.Frag, w.ID, w.More = true, 0x1234, true }},
		{func(v *api.V4) { v.Off = 1 }, func(w *api.V6) { w.Frag, w.ID, w.Off = true, 0x1234, 1 }},
		{func(v *api.V4) { v.Off = 8191 }, func(w *api.V6) { w.Frag, w.ID, w.Off = true, 0x1234, 8191 }},
		{func(v *api.V4) { v.MF, v.Off, v.ID = true, 77, 0xffff }, func(w *api.V6) { w.Frag, w.ID, w.Off, w.More = true, 0xffff, 77, true }},
		{func(v *api.V4) { v.MF, v.ID = true, 0 }, func(w *api.V6) { w.Frag, w.More = true, true }},
		{func(v *api.V4) { v.Proto = 59 }, func(w *api.V6) { w.Proto = 59 }},
		{func(v *api.V4) { v.Proto = 4 }, func(w *api.V6) { w.Proto = 4 }},
	} {
		a, b := v, w
		c.set(&a)
		c.want(&b)
		if got, e := holdPacket(t, a, outer, inner); !like(got, b) || e != api.OK {
			t.Errorf("%d: %s: %s, %d", i, show4(a), show6(got), e)
		}
	}
}

// P17.2: each protocol, of what is whole and of each kind of fragment.
func TestProtocols(t *testing.T) {
	body := make([]byte, 40)
	body[6], body[16] = 1, 1
	for proto := range 256 {
		v := datagram(byte(proto), body)
		all := append(kindsOfFragment(v), v)
		for _, v := range all {
			switch proto {
			case 0, 43, 44, 58, 60:
				wantNoPacket(t, v, 171)
			case 1:
				holdPacket(t, v, outer, inner)
			default:
				if w, e := holdPacket(t, v, outer, inner); e != api.OK || int(w.Proto) != proto {
					t.Errorf("%s: %s, %d", show4(v), show6(w), e)
				}
				same, e := tosix.Packet(v, outer, inner)
				if carried := (proto == 6 || proto == 17) && v.Off == 0; bytes.Equal(same.Body, body) == carried || e != api.OK {
					t.Errorf("%s: %s, %d", show4(v), show6(same), e)
				}
			}
		}
	}
}

// P17.2: of options nothing is left, but a source route that is not at its end is refused.
func TestRoutes(t *testing.T) {
	body := unhex("13880035000b4eaf686921")
	for _, c := range []struct {
		options string
		e       api.Errno
	}{
		{"07030400", api.OK},
		{"01010101", api.OK},
		{"00000000", api.OK},
		{"94040000", api.OK},
		{"8307040a00000300", 170},
		{"8907040a00000300", 170},
		{"8307070a00000300", 170},
		{"8307080a00000300", api.OK},
		{"8907080a00000300", api.OK},
		{"8307000a00000300", 170},
		{"8307ff0a00000300", api.OK},
		{"83020000", api.OK},
		{"83030300", 170},
		{"83030400", api.OK},
		{"018307040a000003", 170},
		{"008307040a000003", api.OK},
		{"0701000083030300", api.OK},
		{"0709000083030300", api.OK},
		{"8308040a00000300", 170},
		{"8309040a00000300", api.OK},
		{"8803030083030300", api.OK},
		{"88040300" + "83030300", 170},
		{"0707040a00000300", api.OK},
	} {
		v := datagram(17, body)
		v.Options = unhex(c.options)
		for _, v := range append(kindsOfFragment(v), v) {
			if c.e != api.OK {
				wantNoPacket(t, v, c.e)
				continue
			}
			plain := v
			plain.Options = nil
			want, _ := plainPacket(plain, outer, inner)
			wantPacket(t, v, want.Body)
		}
	}
}

// P17.2: a source route is refused also where a longer row of options holds it.
func TestRouteBehindOthers(t *testing.T) {
	for n := range 34 {
		v := datagram(47, nil)
		v.Options = append(bytes.Repeat([]byte{1}, n), 137, 7, 4, 1, 2, 3, 4)
		for len(v.Options)%4 > 0 {
			v.Options = append(v.Options, 0)
		}
		wantNoPacket(t, v, 170)
	}
}

// P17.2: bodies of TCP and UDP of each length around their headers', of what is whole and of each kind of fragment.
func TestShortBodies(t *testing.T) {
	b := bytes.Repeat([]byte{0x5a}, 30)
	for _, c := range []struct {
		proto byte
		least int
	}{{6, 20}, {17, 8}, {47, 0}} {
		for n := range b {
			v := datagram(c.proto, b[:n])
			for _, v := range append(kindsOfFragment(v), v) {
				if n < c.least && v.Off == 0 {
					wantNoPacket(t, v, 173)
					continue
				}
				w, e := holdPacket(t, v, outer, inner)
				if same := c.proto == 47 || v.Off > 0; e != api.OK || len(w.Body) != n || bytes.Equal(w.Body, b[:n]) != same {
					t.Errorf("%s: %s, %d", show4(v), show6(w), e)
				}
			}
		}
	}
}

// P17.2: a UDP checksum 0, with the length that is there and with others, of what is whole and of fragments.
func TestNoChecksum(t *testing.T) {
	for n := 8; n < 40; n++ {
		b := bytes.Repeat([]byte{0xc3}, n)
		b[6], b[7] = 0, 0
		for _, said := range []int{0, 7, 8, n - 1, n, n + 1, n + 256, 65535} {
			v := datagram(17, setNumber(b, 4, said))
			if said == n {
				right := setNumber(b, 4, n)
				right = setNumber(right, 6, 65535-plainSum(append(pseudo6(outer, 17, n), right...)))
				wantPacket(t, v, right)
			} else {
				wantNoPacket(t, v, 173)
			}
			wantNoPacket(t, fragment(v, 0, true), 172)
			wantPacket(t, fragment(v, 1, true), v.Body)
			wantPacket(t, fragment(v, 8191, false), v.Body)
		}
	}
}

// P17.2: of a UDP checksum that is not 0, in either byte, no length is asked.
func TestLengthNotAsked(t *testing.T) {
	for _, check := range []int{1, 255, 256, 0x8000, 65535} {
		for _, said := range []int{0, 8, 12, 65535} {
			v := datagram(17, setNumber(setNumber(make([]byte, 12), 6, check), 4, said))
			for _, v := range []api.V4{v, fragment(v, 0, true)} {
				want := plainCarried(check, ends4, outer, true)
				wantPacket(t, v, setNumber(v.Body, 6, want))
			}
		}
	}
}

// P17.2: a checksum that becomes 0 is 65535 of UDP, 0 of TCP; each checksum there is.
func TestChecks(t *testing.T) {
	zeros := 0
	for check := range 65536 {
		for _, proto := range []byte{6, 17} {
			if proto == 17 && check == 0 {
				continue
			}
			v := datagram(proto, setNumber(bytes.Repeat([]byte{9}, 20), checkAt(proto), check))
			w, e := holdPacket(t, v, outer, inner)
			if e != api.OK {
				t.Fatalf("protocol %d, %x: %d", proto, check, e)
			}
			got := number(w.Body[checkAt(proto):][:2])
			if plainCarried(check, ends4, outer, false) == 0 {
				zeros++
				if want := map[byte]int{6: 0, 17: 65535}[proto]; got != want {
					t.Errorf("protocol %d, %x: %x", proto, check, got)
				}
			}
		}
	}
	if zeros < 2 {
		t.Errorf("only %d became 0", zeros)
	}
}

// P17.2: a UDP checksum that is reckoned anew, and comes to 0, is 65535.
func TestReckonedZero(t *testing.T) {
	b := unhex("1388003500000000" + "0000")
	b = setNumber(b, 4, len(b))
	for data := range 65536 {
		v := datagram(17, setNumber(b, 8, data))
		want := 65535 - plainSum(append(pseudo6(outer, 17, len(b)), v.Body...))
		if want > 0 {
			continue
		}
		wantPacket(t, v, setNumber(v.Body, 6, 65535))
		return
	}
	t.Error("none came to 0")
}

// P17.2: the ends of which a checksum tells: each bit of each of them.
func TestEnds(t *testing.T) {
	tcp := datagram(6, rightBody(6, ends4, bytes.Repeat([]byte{7}, 24)))
	udp := datagram(17, rightBody(17, ends4, bytes.Repeat([]byte{7}, 11)))
	bare := datagram(17, setNumber(udp.Body, 6, 0))
	ask := message(8, 0, 5, []byte("abc"))
	for i := range 128 {
		for _, v := range []api.V4{tcp, udp, bare, ask, fragment(tcp, 0, true), fragment(tcp, 3, true)} {
			a, b := outer, outer
			a.Src[i/8] ^= 1 << (i % 8)
			b.Dst[i/8] ^= 1 << (i % 8)
			holdPacket(t, v, a, inner)
			holdPacket(t, v, b, inner)
			if i < 32 {
				v.Src[i/8] ^= 1 << (i % 8)
				holdPacket(t, v, outer, inner)
				v.Dst[i/8] ^= 1 << (i % 8)
				holdPacket(t, v, outer, inner)
			}
			holdPacket(t, v, api.Ends6{}, api.Ends6{})
		}
	}
}

// P17.2: bodies as long as may be, and one more, with a fragment header and without.
func TestLong(t *testing.T) {
	r := dice()
	for _, options := range []int{0, 4, 40} {
		most := 65535 - 20 - options
		for _, proto := range []byte{6, 17, 47, 1} {
			for _, more := range []int{-1, 0, 1, 2, 65536} {
				v := datagram(proto, someBytes(r, most+more))
				v.Options = make([]byte, options)
				if proto == 1 {
					v.Body[0] = 8
					v.Body = rightBody(1, ends4, v.Body)
				}
				for _, v := range append(kindsOfFragment(v), v) {
					w, e := holdPacket(t, v, outer, inner)
					want := api.OK
					if more > 0 {
						want = api.ErrLong
					} else if proto == 1 && (v.MF || v.Off > 0) {
						want = api.ErrFrag
					}
					if e != want || e == api.OK && len(w.Body) != most+more {
						t.Errorf("%d of options, protocol %d, %d bytes: %d bytes, %d; want %d", options, proto, most+more, len(w.Body), e, want)
					}
				}
			}
		}
		long := datagram(17, someBytes(r, most))
		long.Options = make([]byte, options)
		long.Body = setNumber(setNumber(long.Body, 4, most), 6, 0)
		if w, e := holdPacket(t, long, outer, inner); len(w.Body) != most || e != api.OK {
			t.Errorf("reckoned anew: %d bytes, %d", len(w.Body), e)
		}
	}
}

// P17.2: datagrams that may not be, ahead of all else.
func TestMayNotBe(t *testing.T) {
	for _, proto := range []byte{0, 1, 6, 17, 47, 58} {
		for _, off := range []int{-1, 8192, 1 << 40, -1 << 62, 1<<63 - 1} {
			v := fragment(datagram(proto, nil), off, false)
			v.Options = []byte{131, 7, 4, 1, 2, 3, 4, 0}
			wantNoPacket(t, v, api.ErrV4)
			v.Body = make([]byte, 70000)
			wantNoPacket(t, v, api.ErrV4)
		}
		for _, n := range []int{1, 2, 3, 41, 42, 43, 44, 48, 64, 256, 65536} {
			v := datagram(proto, make([]byte, 70000))
			v.Options = bytes.Repeat([]byte{131, 3, 3}, n)[:n]
			wantNoPacket(t, v, api.ErrV4)
		}
		v := datagram(proto, make([]byte, 65516))
		wantNoPacket(t, v, api.ErrLong)
		v.Options, v.Body = []byte{137, 3, 3, 0}, v.Body[:65512]
		wantNoPacket(t, v, api.ErrLong)
		v.Body = v.Body[:65511]
		wantNoPacket(t, v, api.ErrRoute)
	}
}

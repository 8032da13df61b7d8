package tofour_test

import (
	"bytes"
	"testing"

	"ferryman/api"
)

// wantNoInside holds Inside against an error, and against the plain way.
func wantNoInside(t *testing.T, b []byte, want api.Errno) {
	t.Helper()
	if w, e := holdInside(t, b, inner); e != want || w != nil {
		t.Errorf("%s: %s, %d; want %d", cut(b), cut(w), e, want)
	}
}

// Bytes of the ends of the packets in these tests, over IPv6 and over IPv4.
const (
	endsBytes  = "20010db8000000090000000000000001" + "fe80000000000000ff0000000000004d"
	innerBytes = "cb007105" + "0a000002"
)

// P18.4: bytes that were reckoned apart from all of this.
func TestInsideBytes(t *testing.T) {
	for _, c := range []struct{ was, want string }{
		// UDP, whole.
		{"603abcde000b1107" + endsBytes + "13880035000b3720686921",
			"4503001f0000400007112dc4" + innerBytes + "13880035000b1caa686921"},
		// UDP without a checksum, with a head, and cut off.
		{"6030000001f43c07" + endsBytes + "1100777777777777" + "1388003501ec0000",
			"450302000000400007112be3" + innerBytes + "1388003501ec0000"},
		// TCP, the first of some fragments.
		{"6000000005c82c40" + endsBytes + "0600000100010007" + "138800500000000100000002500203e88a110000",
			"450005d40007200040060f16" + innerBytes + "138800500000000100000002500203e86f9b0000"},
		// Any protocol, the last of some fragments, behind a routing header at its end.
		{"6fffffff00382bff" + endsBytes + "2c00770077777777" + "2f0005c8ffff0001" + "aa",
			"45ff003c000100b9ff2f73d2" + innerBytes + "aa"},
		// The header alone.
		{"6000000000003a00" + endsBytes, "4500001400004000000134e2" + innerBytes},
		// An echo, cut off.
		{"6000000003e83a09" + endsBytes + "80051234aabb", "450003fc00004000090127fa" + innerBytes + "0805b9e8aabb"},
	} {
		if w, e := holdInside(t, unhex(c.was), inner); e != api.OK || !bytes.Equal(w, unhex(c.want)) {
			t.Errorf("%s: %x, %d; want %s", c.was, w, e, c.want)
		}
	}
}

// insides are packets of each kind of which an error may tell, with heads and without.
func insides() []api.V6 {
	tcp := datagram(6, rightBody(6, ends6, bytes.Repeat([]byte{0x5a}, 26)))
	udp := datagram(17, rightBody(17, ends6, bytes.Repeat([]byte{0xc3}, 17)))
	none := datagram(17, setNumber(udp.Body, 6, 0))
	var all []api.V6
	for _, v := range []api.V6{tcp, udp, none, message(128, 0, 0xdeadbeef, []byte("abc")), message(129, 9, 0xdeadbeef, []byte("abc")), datagram(47, []byte("whatever it is"))} {
		for _, v := range kinds(v) {
			all = append(all, v, withHeads(v, head(0, 1, 5)), withHeads(v, head(60, 2, 1), head(43, 3, 0)))
		}
	}
	return all
}

// P18.4: packets that are cut off at each place, with their length and with one that is more.
func TestCutOff(t *testing.T) {
	for _, v := range insides() {
		for _, more := range []int{0, 1, 8, 300} {
			b := bytesOf(v, more)
			whole, _ := holdInside(t, b, inner)
			front := 40 + ahead(v)
			for n := range b {
				if n < front {
					wantNoInside(t, b[:n], api.ErrInner)
					continue
				}
				w, e := holdInside(t, b[:n], inner)
				if e != api.OK || len(w) != 20+n-front {
					t.Errorf("%x: %x, %d; want %d bytes", b[:n], w, e, 20+n-front)
				}
				// Cut off or not, the packet is said to be as long.
				if e == api.OK && !bytes.Equal(w[:20], whole[:20]) {
					t.Errorf("%x: %x; want %x", b[:n], w[:20], whole[:20])
				}
			}
		}
	}
}

// P18.4: a payload length above what is there, near 65535, with heads and without; the header's checksum is right.
func TestLengths(t *testing.T) {
	for _, v := range insides() {
		b := bytesOf(v, 0)
		for _, size := range []int{len(b) - 40, len(b) - 39, 255, 256, 1500, 65507, 65514, 65515, 65516, 65517, 65523, 65524, 65531, 65532, 65534, 65535} {
			w, e := holdInside(t, setNumber(b, 4, size), inner)
			if want := min(20+size-ahead(v), 65535); e != api.OK || number(w[2:4]) != want || plainSum(w[:20]) != 65535 {
				t.Errorf("payload length %d: %x, %d; want %d", size, w, e, want)
			}
		}
		for _, size := range []int{0, 1, 7, 8, ahead(v), len(b) - 41} {
			if size < len(b)-40 {
				wantNoInside(t, setNumber(b, 4, size), api.ErrInner)
			}
			if size >= ahead(v) {
				holdInside(t, setNumber(b, 4, size)[:40+size], inner)
			}
		}
	}
}

// P18.4: packets as long as may be, and one byte more.
func TestLongInside(t *testing.T) {
	r := dice()
	for _, proto := range []byte{6, 17, 47, 58} {
		for _, off := range []int{0, 8191} {
			for _, heads := range [][]api.Head{nil, {head(0, 2, 1)}} {
				v := withHeads(fragment(datagram(proto, someBytes(r, 65527-16*len(heads))), off, true), heads...)
				v.Body[0] = 128
				b := bytesOf(v, 0)
				if w, e := holdInside(t, b, inner); e != api.OK || len(w) != 20+len(v.Body) {
					t.Errorf("protocol %d, Off %d: %d bytes, %d", proto, off, len(w), e)
				}
				wantNoInside(t, append(b, 0), api.ErrInner)
				wantNoInside(t, append(b, make([]byte, 65536)...), api.ErrInner)
			}
		}
		v := datagram(proto, someBytes(r, 65535))
		v.Body[0] = 129
		if w, e := holdInside(t, bytesOf(v, 0), inner); e != api.OK || len(w) != 65555 || number(w[2:4]) != 65535 {
			t.Errorf("protocol %d: %d bytes, %d", proto, len(w), e)
		}
	}
}

// P18.4: each version, and bytes that are no packet.
func TestFirstByte(t *testing.T) {
	b := bytesOf(datagram(47, make([]byte, 30)), 0)
	for first := range 256 {
		b[0] = byte(first)
		for _, n := range []int{0, 1, 39, 40, 41, 70} {
			w, e := holdInside(t, b[:n], inner)
			if good := first/16 == 6 && n >= 40; good != (e == api.OK) || !good && e != api.ErrInner || good && w[1] != byte(16*first)+3 {
				t.Errorf("%x: %x, %d", b[:n], w, e)
			}
		}
	}
	for _, b := range [][]byte{nil, {}, make([]byte, 40), make([]byte, 100), bytes.Repeat([]byte{0x45}, 60), bytes.Repeat([]byte{0xff}, 80)} {
		wantNoInside(t, b, api.ErrInner)
	}
}

// P18.4: each protocol, with a Body and without, without a fragment header and with each kind of one.
func TestInsideProtocols(t *testing.T) {
	for proto := range 256 {
		for _, v := range append(kinds(datagram(byte(proto), nil)), kinds(datagram(byte(proto), append([]byte{128}, make([]byte, 29)...)))...) {
			w, e := holdInside(t, bytesOf(v, 2), inner)
			switch {
			case !v.Frag && isOne(byte(proto), 0, 43, 44, 60): // the Body is read as that header
				if empty := len(v.Body) == 0; empty != (e != api.OK) {
					t.Errorf("%s: %x, %d", show6(v), w, e)
				}
			case strange(byte(proto)):
				if e != api.ErrNoSide {
					t.Errorf("%s: %x, %d", show6(v), w, e)
				}
			default:
				if want := map[int]int{58: 1}[proto]; e != api.OK || want > 0 && int(w[9]) != want || want == 0 && int(w[9]) != proto {
					t.Errorf("%s: %x, %d", show6(v), w, e)
				}
			}
		}
	}
}

// P18.4: an error of ICMP itself, of each type, without a fragment header and with each kind of one; with no Body it is none.
func TestAboutErrors(t *testing.T) {
	for kind := range 256 {
		v := message(byte(kind), 0, 0, small)
		for _, v := range kinds(v) {
			for n := range 10 {
				v.Body = v.Body[:n]
				b := bytesOf(v, 90)
				if v.Off == 0 && n > 0 && kind != 128 && kind != 129 {
					wantNoInside(t, b, api.ErrInner)
				} else if w, e := holdInside(t, b, inner); e != api.OK || len(w) != 20+n || w[9] != 1 {
					t.Errorf("%x: %x, %d", b, w, e)
				}
			}
			v.Proto, v.Body = 59, v.Body[:1]
			holdInside(t, bytesOf(v, 0), inner)
		}
	}
}

// P18.4, rule 2: which error is told first, and heads of each kind.
func TestInsideOrder(t *testing.T) {
	route := head(43, 1, 1)
	for _, c := range []struct {
		v api.V6
		e api.Errno
	}{
		{withHeads(message(1, 0, 0, nil), route), api.ErrInner},
		{withHeads(message(133, 0, 0, nil), route), api.ErrInner},
		{withHeads(message(128, 0, 0, nil), route), api.ErrRoute},
		{withHeads(fragment(message(1, 0, 0, nil), 1, false), route), api.ErrRoute},
		{withHeads(datagram(1, nil), route), api.ErrRoute},
		{withHeads(whole(datagram(60, nil)), head(60, 1, 1), route), api.ErrRoute},
		{withHeads(datagram(1, nil), head(43, 1, 0), head(60, 1, 1)), api.ErrNoSide},
		{withHeads(fragment(datagram(44, nil), 0, true), head(60, 1, 1)), api.ErrNoSide},
		{withHeads(fragment(datagram(43, []byte{6, 0, 1, 1}), 0, true)), api.ErrNoSide},
		{withHeads(datagram(6, nil), head(60, 1, 1), head(43, 1, 0)), api.OK},
		{withHeads(datagram(6, nil), head(0, 1, 1), head(43, 256, 0), route), api.ErrRoute},
		{withHeads(datagram(6, nil), head(60, 1, 1), head(0, 1, 1)), api.ErrInner},
		{withHeads(datagram(6, nil), route, head(0, 1, 1)), api.ErrInner},
		{withHeads(datagram(6, nil), head(60, 1, 1), head(60, 1, 1), head(60, 1, 1), head(60, 1, 1), head(60, 1, 1), head(60, 1, 1), head(60, 1, 1), head(60, 1, 1)), api.OK},
		{withHeads(datagram(6, nil), route, head(60, 1, 1), head(60, 1, 1), head(60, 1, 1), head(60, 1, 1), head(60, 1, 1), head(60, 1, 1), head(60, 1, 1), head(60, 1, 1)), api.ErrInner},
	} {
		for _, more := range []int{0, 9} {
			b := bytesOf(c.v, more)
			if w, e := holdInside(t, b, inner); e != c.e {
				t.Errorf("%x: %x, %d; want %d", b, w, e, c.e)
			}
		}
	}
}

// P18.4: an echo's checksum is right behind it, if it was, of each code, and of each number of bytes there.
func TestInsideEchoes(t *testing.T) {
	for kind, want := range map[byte]byte{128: 8, 129: 0} {
		for _, code := range []byte{0, 1, 255} {
			v := message(kind, code, 0x01020304, []byte("data, and more of it"))
			b := bytesOf(v, 0)
			for n := range v.Body {
				w, e := holdInside(t, b[:40+n], inner)
				if e != api.OK {
					t.Fatalf("%x: %d", b[:40+n], e)
				}
				rest := w[20:]
				if n < 4 && !bytes.Equal(rest, v.Body[:n]) || n >= 4 && (rest[0] != want || rest[1] != code || !bytes.Equal(rest[4:], v.Body[4:n])) {
					t.Errorf("%x: %x", b[:40+n], rest)
				}
			}
			for _, v := range []api.V6{v, whole(v), withHeads(whole(v), head(60, 4, 1))} {
				if w, e := holdInside(t, bytesOf(v, 0), inner); e != api.OK || plainSum(w[20:]) != 65535 {
					t.Errorf("the checksum of %x, %d", w, e)
				}
			}
		}
	}
}

// P18.4: each checksum there is, of TCP, UDP and ICMP.
func TestInsideChecks(t *testing.T) {
	for check := range 65536 {
		for _, proto := range []byte{58, 6, 17} {
			v := datagram(proto, setNumber(append([]byte{128}, bytes.Repeat([]byte{9}, 17)...), checkAt(proto), check))
			holdInside(t, bytesOf(v, 0), inner)
		}
	}
}

// P18.4: a checksum of which one byte is 0, or alone is there; one of UDP that is 0 stays.
func TestInsideHalf(t *testing.T) {
	for _, proto := range []byte{58, 6, 17} {
		for _, check := range []int{0, 1, 255, 256, 0xff00, 65535} {
			at := checkAt(proto)
			v := datagram(proto, setNumber(append([]byte{128}, bytes.Repeat([]byte{9}, 21)...), at, check))
			b := bytesOf(v, 0)
			for n := range v.Body {
				w, e := holdInside(t, b[:40+n], inner)
				if e != api.OK {
					t.Fatalf("%x: %d", b[:40+n], e)
				}
				there := n >= map[byte]int{58: 4, 6: 18, 17: 8}[proto] && (proto != 17 || check != 0)
				if same := bytes.Equal(w[20:], v.Body[:n]); same == there {
					t.Errorf("%x: %x", b[:40+n], w[20:])
				}
			}
		}
	}
}

// P18.4: the ends of which checksums tell, by each bit, and ends that are all 0.
func TestInsideEnds(t *testing.T) {
	for _, v := range insides() {
		b := bytesOf(v, 0)
		for i := range 64 {
			ends := inner
			if i < 32 {
				ends.Src[i/8] ^= 1 << (i % 8)
			} else {
				ends.Dst[i/8-4] ^= 1 << (i % 8)
			}
			holdInside(t, b, ends)
		}
		for i := 8 * 8; i < 8*40; i++ {
			other := bytes.Clone(b)
			other[i/8] ^= 1 << (i % 8)
			holdInside(t, other, inner)
		}
		holdInside(t, b, api.Ends4{})
	}
}

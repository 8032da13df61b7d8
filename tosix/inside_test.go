package tosix_test

import (
	"bytes"
	"testing"

	"ferryman/api"
)

// wantNoInside holds Inside against an error, and against the plain way.
func wantNoInside(t *testing.T, b []byte, want api.Errno) {
	t.Helper()
	if w, e := holdInside(t, b, inner); e != want || w != nil {
		t.Errorf("%s: %s, %d; want %d", cut(b), cut(w), e, want)
	}
}

// Bytes of the ends of which Inside tells in these tests.
const innerEnds = "20010db8000000090000000000000001" + "fe80000000000000ff0000000000004d"

// P17.4: bytes that were reckoned apart from all of this.
func TestInsideBytes(t *testing.T) {
	for _, c := range []struct{ was, want string }{
		// UDP, whole.
		{"4503001fbeef00000711abcd0a0000010a000002" + "13880035000b4eaf686921",
			"60300000000b1107" + innerEnds + "13880035000b3720686921"},
		// UDP without a checksum, with options, and cut off.
		{"460301f4beef00000711abcd0a0000010a000002" + "07030400" + "1388003501dc0000",
			"6030000001dc1107" + innerEnds + "1388003501dc0000"},
		// TCP, the first of some fragments.
		{"450005dcbeef20004006abcd0a0000010a000002" + "138800500000000100000002500203e8841d0000",
			"6000000005d02c40" + innerEnds + "060000010000beef" + "138800500000000100000002500203e86c8e0000"},
		// Any protocol, another of them.
		{"45ff0030000100b9ff2fabcd0a0000010a000002" + "aa",
			"6ff0000000242cff" + innerEnds + "2f0005c800000001" + "aa"},
		// The headers alone.
		{"45000014000000000001abcd0a0000010a000002", "6000000000003a00" + innerEnds},
	} {
		if w, e := holdInside(t, unhex(c.was), inner); e != api.OK || !bytes.Equal(w, unhex(c.want)) {
			t.Errorf("%s: %x, %d; want %s", c.was, w, e, c.want)
		}
	}
}

// insides are packets of each kind of which an error may tell.
func insides() []api.V4 {
	tcp := datagram(6, rightBody(6, ends4, bytes.Repeat([]byte{0x5a}, 26)))
	udp := datagram(17, rightBody(17, ends4, bytes.Repeat([]byte{0xc3}, 17)))
	bare := datagram(17, setNumber(udp.Body, 6, 0))
	all := []api.V4{tcp, udp, bare, message(8, 0, 0xdeadbeef, []byte("abc")), message(0, 9, 0xdeadbeef, []byte("abc")), datagram(47, []byte("whatever it is"))}
	for _, v := range all {
		all = append(all, kindsOfFragment(v)...)
	}
	for _, v := range all {
		v.Options = []byte{7, 7, 4, 1, 2, 3, 4, 0}
		all = append(all, v)
	}
	return all
}

// P17.4: packets that are cut off at each place, with their length and with one that is more.
func TestCutOff(t *testing.T) {
	for _, v := range insides() {
		for _, more := range []int{0, 1, 8, 300} {
			b := bytesOf(v, more)
			whole, _ := holdInside(t, b, inner)
			for n := range b {
				if n < 20+len(v.Options) {
					wantNoInside(t, b[:n], api.ErrInner)
					continue
				}
				w, e := holdInside(t, b[:n], inner)
				if want := len(whole) - len(b) + n; e != api.OK || len(w) != want {
					t.Errorf("%x: %x, %d; want %d bytes", b[:n], w, e, want)
				}
				// Cut off or not, the packet is said to be as long.
				if e == api.OK && !bytes.Equal(w[:40], whole[:40]) {
					t.Errorf("%x: %x; want %x", b[:n], w[:40], whole[:40])
				}
			}
		}
	}
}

// P17.4: a length above what is there, near 65535, of what is whole and of fragments.
func TestLengths(t *testing.T) {
	for _, v := range insides() {
		head := 20 + len(v.Options)
		b := bytesOf(v, 0)
		for _, all := range []int{len(b), len(b) + 1, 255, 256, 1500, 65507, 65515, 65516, 65527, 65528, 65534, 65535} {
			w, e := holdInside(t, setNumber(b, 2, all), inner)
			want := all - head
			if v.MF || v.Off > 0 {
				want += 8
			}
			if e != api.OK || number(w[4:6]) != want {
				t.Errorf("length %d: %x, %d; want %d", all, w, e, want)
			}
		}
		for _, all := range []int{0, 1, 19, 20, head - 1, head, len(b) - 1} {
			wantNoInside(t, setNumber(b, 2, all), api.ErrInner)
			if all >= head {
				holdInside(t, setNumber(b, 2, all)[:all], inner)
			}
		}
	}
}

// P17.4: packets as long as may be.
func TestLongInside(t *testing.T) {
	r := dice()
	for _, proto := range []byte{6, 17, 47, 1} {
		for _, off := range []int{0, 8191} {
			v := fragment(datagram(proto, someBytes(r, 65515)), off, off > 0)
			v.Body[0] = 8
			b := bytesOf(v, 0)
			if w, e := holdInside(t, b, inner); e != api.OK || len(w) < 40+65515 {
				t.Errorf("protocol %d, Off %d: %d bytes, %d", proto, off, len(w), e)
			}
			wantNoInside(t, append(b, 0), api.ErrInner)
			wantNoInside(t, append(b, make([]byte, 65536)...), api.ErrInner)
		}
	}
}

// P17.4: each version and header's length, in packets of each number of bytes up to the longest header.
func TestFirstByte(t *testing.T) {
	b := setNumber(bytes.Repeat([]byte{1}, 70), 2, 70)
	b[6], b[7], b[9] = 0, 0, 47
	for first := range 256 {
		for n := range b {
			b[0] = byte(first)
			w, e := holdInside(t, b[:n], inner)
			head := 4 * (first & 15)
			if good := first/16 == 4 && head >= 20 && head <= n && n >= 20; good != (e == api.OK) || good && len(w) != 40+n-head {
				t.Errorf("%x, %d bytes: %x, %d", first, n, w, e)
			}
		}
	}
}

// P17.4: each protocol, of what is whole and of each kind of fragment.
func TestInsideProtocols(t *testing.T) {
	body := bytes.Repeat([]byte{8}, 20)
	for proto := range 256 {
		v := datagram(byte(proto), body)
		for _, v := range append(kindsOfFragment(v), v) {
			b := bytesOf(v, 5)
			switch proto {
			case 0, 43, 44, 58, 60:
				wantNoInside(t, b, api.ErrNoSide)
				continue
			}
			w, e := holdInside(t, b, inner)
			if e != api.OK {
				t.Errorf("%x: %d", b, e)
				continue
			}
			carried := (proto == 1 || proto == 6 || proto == 17) && v.Off == 0
			if same := bytes.HasSuffix(w, body); same == carried {
				t.Errorf("%x: %x", b, w)
			}
		}
	}
}

// P17.4: options of any kind are left out, a source route among them.
func TestInsideOptions(t *testing.T) {
	for _, o := range []string{"", "01010101", "8307040a00000300", "8903030000000000", "ffffffff", "0703040007030400"} {
		v := datagram(17, rightBody(17, ends4, make([]byte, 12)))
		want, _ := plainInside(bytesOf(v, 0), inner)
		v.Options = unhex(o)
		if w, e := holdInside(t, bytesOf(v, 0), inner); e != api.OK || !bytes.Equal(w, want) {
			t.Errorf("%s: %x, %d", o, w, e)
		}
	}
}

// P17.4: errors about errors: each type, in packets cut off at each place, whole and fragments.
func TestErrorsAboutErrors(t *testing.T) {
	for kind := range 256 {
		for n := range 12 {
			v := datagram(1, append([]byte{byte(kind)}, bytes.Repeat([]byte{3}, 11)...)[:n])
			for _, v := range append(kindsOfFragment(v), v) {
				b := bytesOf(v, 0)
				if v.Off == 0 && n > 0 && kind != 0 && kind != 8 {
					wantNoInside(t, b, api.ErrInner)
				} else if w, e := holdInside(t, b, inner); e != api.OK || w == nil {
					t.Errorf("%x: %x, %d", b, w, e)
				}
			}
		}
	}
}

// P17.4: an echo that is cut off ahead of its checksum's end stays as it is; else its type and checksum are ICMPv6's.
func TestInsideEcho(t *testing.T) {
	for kind, want := range map[byte]byte{8: 128, 0: 129} {
		for _, code := range []byte{0, 1, 255} {
			v := message(kind, code, 0x01020304, []byte("data, and more of it"))
			b := bytesOf(v, 0)
			for n := range v.Body {
				w, e := holdInside(t, b[:20+n], inner)
				if e != api.OK {
					t.Fatalf("%x: %d", b[:20+n], e)
				}
				rest := w[40:]
				if n < 4 && !bytes.Equal(rest, v.Body[:n]) || n >= 4 && (rest[0] != want || rest[1] != code || !bytes.Equal(rest[4:], v.Body[4:n])) {
					t.Errorf("%x: %x", b[:20+n], rest)
				}
			}
			w, _ := holdInside(t, b, inner)
			if plainSum(append(pseudo6(inner, 58, len(v.Body)), w[40:]...)) != 65535 {
				t.Errorf("the checksum of %x", w)
			}
		}
	}
}

// P17.4: each checksum there is, of TCP, UDP and ICMP.
func TestInsideChecks(t *testing.T) {
	for check := range 65536 {
		for _, proto := range []byte{1, 6, 17} {
			v := datagram(proto, setNumber(append([]byte{8}, bytes.Repeat([]byte{9}, 17)...), checkAt(proto), check))
			holdInside(t, bytesOf(v, 0), inner)
		}
	}
}

// P17.4: a checksum of which one byte is 0, or alone is there; one of UDP that is 0 stays.
func TestInsideHalf(t *testing.T) {
	for _, proto := range []byte{1, 6, 17} {
		for _, check := range []int{0, 1, 255, 256, 0xff00, 65535} {
			at := checkAt(proto)
			v := datagram(proto, setNumber(append([]byte{8}, bytes.Repeat([]byte{9}, 21)...), at, check))
			b := bytesOf(v, 0)
			for n := range v.Body {
				w, e := holdInside(t, b[:20+n], inner)
				if e != api.OK {
					t.Fatalf("%x: %d", b[:20+n], e)
				}
				there := n >= map[byte]int{1: 4, 6: 18, 17: 8}[proto] && (proto != 17 || check != 0)
				if same := bytes.Equal(w[40:], v.Body[:n]); same == there {
					t.Errorf("%x: %x", b[:20+n], w[40:])
				}
			}
		}
	}
}

// P17.4: the ends of which a checksum tells, by each bit, and ends that are all 0.
func TestInsideEnds(t *testing.T) {
	for _, v := range insides() {
		b := bytesOf(v, 0)
		for i := range 256 {
			ends := inner
			if i < 128 {
				ends.Src[i/8] ^= 1 << (i % 8)
			} else {
				ends.Dst[i/8-16] ^= 1 << (i % 8)
			}
			holdInside(t, b, ends)
		}
		for i := 8 * 12; i < 8*20; i++ {
			other := bytes.Clone(b)
			other[i/8] ^= 1 << (i % 8)
			holdInside(t, other, inner)
		}
		holdInside(t, b, api.Ends6{})
	}
}

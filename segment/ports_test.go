package segment_test

import (
	"bytes"
	"encoding/binary"
	"testing"

	"ferryman/api"
	"ferryman/segment"
)

// P6.5: each protocol, and each number of bytes up to some.
func TestPorts(t *testing.T) {
	r := dice()
	for proto := range 256 {
		for n := range 30 {
			b := someBytes(r, n)
			src, dst, ok := segment.Ports(uint8(proto), b)
			if (proto == 6 || proto == 17) && n >= 4 {
				if !ok || int(src) != 256*int(b[0])+int(b[1]) || int(dst) != 256*int(b[2])+int(b[3]) {
					t.Fatalf("protocol %d, % x: %d, %d, %t", proto, b, src, dst, ok)
				}
			} else if src != 0 || dst != 0 || ok {
				t.Fatalf("protocol %d, % x: %d, %d, %t", proto, b, src, dst, ok)
			}
		}
	}
	for _, proto := range []uint8{api.ProtoTCP, api.ProtoUDP} {
		if src, dst, ok := segment.Ports(proto, []byte{1, 2, 3, 4}); src != 0x102 || dst != 0x304 || !ok {
			t.Errorf("%d, %d, %t", src, dst, ok)
		}
		if src, dst, ok := segment.Ports(proto, []byte{1, 2, 3}); src != 0 || dst != 0 || ok {
			t.Errorf("3 bytes: %d, %d, %t", src, dst, ok)
		}
		if src, dst, ok := segment.Ports(proto, make([]byte, 1<<17)); src != 0 || dst != 0 || !ok {
			t.Errorf("many bytes: %d, %d, %t", src, dst, ok)
		}
		if _, _, ok := segment.Ports(proto, nil); ok {
			t.Error("nil has ports")
		}
	}
}

// plainUpdate is what a checksum is behind a change by chapter 1, written apart from the program.
func plainUpdate(check int, from, to []byte) int {
	n := 65535 - check
	for i := 0; i < len(from); i += 2 {
		n += 65535 - (256*int(from[i]) + int(from[i+1]))
		n += 256*int(to[i]) + int(to[i+1])
	}
	for n > 65535 {
		n = n%65536 + n/65536
	}
	return 65535 - n
}

// plainRewrite is Rewrite by the chapter's words.
func plainRewrite(proto uint8, b, from, to []byte, src, dst uint16) ([]byte, api.Errno) {
	if proto != 6 && proto != 17 {
		return nil, 64
	}
	if len(b) < 4 {
		return nil, 60
	}
	if len(from) != len(to) || len(from)%2 == 1 {
		return nil, 10
	}
	out := bytes.Clone(b)
	binary.BigEndian.PutUint16(out, src)
	binary.BigEndian.PutUint16(out[2:], dst)
	at := map[uint8]int{6: 16, 17: 6}[proto]
	if len(b) < at+2 {
		return out, 0
	}
	was := int(binary.BigEndian.Uint16(b[at:]))
	check := plainUpdate(plainUpdate(was, from, to), b[:4], out[:4])
	if proto == 17 && was == 0 {
		check = 0
	} else if proto == 17 && check == 0 {
		check = 65535
	}
	binary.BigEndian.PutUint16(out[at:], uint16(check))
	return out, 0
}

// testRewrite holds Rewrite against the chapter's words, and answers the bytes.
func testRewrite(t *testing.T, proto uint8, b, from, to []byte, src, dst uint16, want api.Errno) []byte {
	t.Helper()
	plain, e := plainRewrite(proto, b, from, to, src, dst)
	got, f := segment.Rewrite(proto, b, from, to, src, dst)
	if !bytes.Equal(got, plain) || f != e || e != want || e != api.OK && got != nil {
		t.Fatalf("protocol %d, %d bytes % x, from % x, to % x, ports %d, %d: % x, %d; want % x, %d", proto, len(b), b[:min(len(b), 30)], from, to, src, dst, got[:min(len(got), 30)], f, plain[:min(len(plain), 30)], e)
	}
	return got
}

// P6.6: the errors, and which of them is told first.
func TestRewriteErrors(t *testing.T) {
	r := dice()
	odd := [][2][]byte{
		{nil, {1, 2}}, {{1, 2}, nil}, {{1}, {2}}, {{1, 2}, {3}}, {{1}, {2, 3}}, {{1, 2, 3}, {4, 5, 6}}, {{1, 2, 3, 4}, {5, 6}},
		{make([]byte, 8), make([]byte, 32)}, {make([]byte, 7), make([]byte, 7)}, {nil, {1}}, {{1}, {}},
	}
	even := [][2][]byte{{nil, nil}, {nil, {}}, {{}, nil}, {{1, 2}, {3, 4}}, {make([]byte, 8), someBytes(r, 8)}, {someBytes(r, 32), someBytes(r, 32)}}
	for n := range 40 {
		b := someBytes(r, n)
		for proto := range 256 {
			for i, c := range append(even, odd...) {
				want := api.OK
				switch {
				case proto != 6 && proto != 17:
					want = api.ErrProto
				case n < 4:
					want = api.ErrShortSeg
				case i >= len(even):
					want = api.ErrWords
				}
				testRewrite(t, uint8(proto), b, c[0], c[1], 5, 6, want)
			}
		}
	}
	testRewrite(t, api.ProtoTCP, nil, nil, nil, 0, 0, api.ErrShortSeg)
	testRewrite(t, api.ProtoUDP, []byte{}, []byte{1}, nil, 0, 0, api.ErrShortSeg)
	testRewrite(t, api.ProtoICMP, nil, []byte{1}, nil, 0, 0, api.ErrProto)
}

// P6.6: bytes that end ahead of, within and just behind the checksum; all behind the ports but the checksum stays.
func TestRewriteCutOff(t *testing.T) {
	r := dice()
	for _, c := range []struct {
		proto uint8
		at    int
	}{{api.ProtoTCP, 16}, {api.ProtoUDP, 6}} {
		for n := 4; n < 40; n++ {
			for range 50 {
				b, from, to := someBytes(r, n), someBytes(r, 8), someBytes(r, 8)
				got := testRewrite(t, c.proto, b, from, to, 0x1234, 0x5678, api.OK)
				want := append([]byte{0x12, 0x34, 0x56, 0x78}, b[4:]...)
				if n >= c.at+2 {
					copy(want[c.at:], got[c.at:c.at+2])
				}
				if !bytes.Equal(got, want) {
					t.Fatalf("protocol %d, % x: % x", c.proto, b, got)
				}
			}
		}
	}
	testRewrite(t, api.ProtoTCP, someBytes(r, 1<<17), []byte{1, 2}, []byte{3, 4}, 9, 9, api.OK)
	testRewrite(t, api.ProtoUDP, someBytes(r, 1<<17+1), []byte{1, 2}, []byte{3, 4}, 9, 9, api.OK)
}

// P6.6: each elder checksum: of UDP 0 stays, and a new 0 is 65535; of TCP neither.
func TestRewriteChecksums(t *testing.T) {
	from, to := []byte{10, 0, 0, 1}, []byte{192, 0, 2, 18}
	udp, tcp := make([]byte, 9), make([]byte, 21)
	zeros, ones := 0, 0
	for x := range 1 << 16 {
		binary.BigEndian.PutUint16(udp[6:], uint16(x))
		binary.BigEndian.PutUint16(tcp[16:], uint16(x))
		u := binary.BigEndian.Uint16(testRewrite(t, api.ProtoUDP, udp, from, to, 7, 8, api.OK)[6:])
		s := binary.BigEndian.Uint16(testRewrite(t, api.ProtoTCP, tcp, from, to, 7, 8, api.OK)[16:])
		if x == 0 && u != 0 || x != 0 && (u == 0 || u != s && (u != 65535 || s != 0)) {
			t.Fatalf("checksum %d: of UDP %d, of TCP %d", x, u, s)
		}
		if s == 0 {
			zeros++
		}
		if x != 0 && u == 65535 {
			ones++
		}
	}
	if zeros == 0 || ones == 0 {
		t.Errorf("a new checksum 0: %d of TCP, %d of UDP", zeros, ones)
	}
}

// P6.6: where addresses alone, or ports alone, would leave a checksum 0, it is the last one that counts.
func TestRewriteInTurn(t *testing.T) {
	b := []byte{0, 5, 0, 6, 0, 8, 0, 3}
	// 3 becomes 0 by the addresses, and 65535 - 1 by the ports.
	got := testRewrite(t, api.ProtoUDP, b, []byte{0, 0}, []byte{0, 3}, 5, 7, api.OK)
	if want := []byte{0, 5, 0, 7, 0, 8, 0xff, 0xfe}; !bytes.Equal(got, want) {
		t.Errorf("% x", got)
	}
	// 3 becomes 0 by the ports, behind no change of addresses.
	got = testRewrite(t, api.ProtoUDP, b, nil, nil, 5, 9, api.OK)
	if want := []byte{0, 5, 0, 9, 0, 8, 0xff, 0xff}; !bytes.Equal(got, want) {
		t.Errorf("% x", got)
	}
	c := append([]byte{0, 5, 0, 6}, make([]byte, 16)...)
	c[17] = 3
	got = testRewrite(t, api.ProtoTCP, c, nil, nil, 5, 9, api.OK)
	if want := append([]byte{0, 5, 0, 9}, make([]byte, 16)...); !bytes.Equal(got, want) {
		t.Errorf("% x", got)
	}
	// No change at all leaves the bytes as they are.
	if got := testRewrite(t, api.ProtoUDP, b, nil, nil, 5, 6, api.OK); !bytes.Equal(got, b) {
		t.Errorf("% x", got)
	}
}

// P6.6: random bytes, ports and changes.
func TestRewriteRandom(t *testing.T) {
	r := dice()
	for range 20000 {
		n := 2 * r.IntN(20)
		b := someBytes(r, 4+r.IntN(60))
		for _, proto := range []uint8{api.ProtoTCP, api.ProtoUDP} {
			testRewrite(t, proto, b, someBytes(r, n), someBytes(r, n), uint16(r.Uint32()), uint16(r.Uint32()), api.OK)
		}
	}
}

// P6.9: what is rewritten from one pair of addresses to another is, over the new ones, the same but for its ports.
func TestRewritten(t *testing.T) {
	r := dice()
	for range 3000 {
		for _, n := range networks(r) {
			m := someNetwork(r, n.six)
			u, src, dst := someUDP(r), uint16(r.Uint32()), uint16(r.Uint32())
			b, _ := n.writeUDP(u)
			got, e := segment.Rewrite(api.ProtoUDP, b, n.ends(), m.ends(), src, dst)
			v, none, f := m.parseUDP(got)
			u.Src, u.Dst = src, dst
			if e != api.OK || f != api.OK || none || !likeUDP(u, v) {
				t.Fatalf("%s: % x: % x, %d: %+v, %t, %d", n.name, b, got, e, v, none, f)
			}
			s := someTCP(r)
			b, _ = n.writeTCP(s)
			got, e = segment.Rewrite(api.ProtoTCP, b, n.ends(), m.ends(), src, dst)
			w, f := m.parseTCP(got)
			s.Src, s.Dst = src, dst
			if e != api.OK || f != api.OK || !likeTCP(s, w) {
				t.Fatalf("%s: % x: % x, %d: %+v, %d", n.name, b, got, e, w, f)
			}
		}
	}
}

// P6.9: where the new checksum is 0, it is right all the same, of UDP written as 65535.
func TestRewrittenZero(t *testing.T) {
	r := dice()
	for range 300 {
		for _, n := range networks(r) {
			m := someNetwork(r, n.six)
			u := someUDP(r)
			b, _ := n.writeUDP(u)
			u.Dst = 0
			dst := binary.BigEndian.Uint16(plainUDP(m, u)[6:])
			got, e := segment.Rewrite(api.ProtoUDP, b, n.ends(), m.ends(), u.Src, dst)
			v, none, f := m.parseUDP(got)
			u.Dst = dst
			if e != api.OK || f != api.OK || none || !likeUDP(u, v) || got[6] != 255 || got[7] != 255 {
				t.Fatalf("%s: % x: % x, %d: %+v, %t, %d", n.name, b, got, e, v, none, f)
			}
		}
	}
}

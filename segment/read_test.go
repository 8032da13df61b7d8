package segment_test

import (
	"bytes"
	"encoding/binary"
	"math/rand/v2"
	"testing"

	"ferryman/api"
)

// plainReadUDP is the chapter's reading of a UDP datagram, written apart from the program.
func plainReadUDP(n network, b []byte) (u api.UDP, none bool, e api.Errno) {
	if len(b) < 8 {
		return u, false, 60
	}
	if int(b[4])*256+int(b[5]) != len(b) {
		return u, false, 61
	}
	none = b[6] == 0 && b[7] == 0
	if none && n.six || !none && plainSum(append(n.pseudo(17, len(b)), b...)) != 65535 {
		return u, false, 62
	}
	u = api.UDP{Src: binary.BigEndian.Uint16(b), Dst: binary.BigEndian.Uint16(b[2:]), Data: b[8:]}
	return u, none, 0
}

// plainReadTCP is the chapter's reading of a segment.
func plainReadTCP(n network, b []byte) (s api.TCP, e api.Errno) {
	if len(b) < 20 {
		return s, 60
	}
	ahead := int(b[12]/16) * 4
	if ahead < 20 || ahead > len(b) {
		return s, 61
	}
	if len(b) > 65535 {
		return s, 2
	}
	if plainSum(append(n.pseudo(6, len(b)), b...)) != 65535 {
		return s, 62
	}
	return api.TCP{
		Src: binary.BigEndian.Uint16(b), Dst: binary.BigEndian.Uint16(b[2:]),
		Seq: binary.BigEndian.Uint32(b[4:]), Ack: binary.BigEndian.Uint32(b[8:]), Flags: b[13] % 64,
		Window: binary.BigEndian.Uint16(b[14:]), Urgent: binary.BigEndian.Uint16(b[18:]),
		Options: b[20:ahead], Data: b[ahead:],
	}, 0
}

// testReadUDP and testReadTCP hold Parse against the chapter's reading, and answer its error.
func testReadUDP(t *testing.T, n network, b []byte) api.Errno {
	t.Helper()
	u, none, e := plainReadUDP(n, b)
	if v, got, f := n.parseUDP(b); !likeUDP(u, v) || got != none || f != e || e != api.OK && !zeroUDP(v) {
		t.Fatalf("%s, %d bytes, % x: %d, %t, %d; want %t, %d", n.name, len(b), b[:min(len(b), 30)], v.Dst, got, f, none, e)
	}
	return e
}

func testReadTCP(t *testing.T, n network, b []byte) api.Errno {
	t.Helper()
	s, e := plainReadTCP(n, b)
	if v, f := n.parseTCP(b); !likeTCP(s, v) || f != e || e != api.OK && !zeroTCP(v) {
		t.Fatalf("%s, %d bytes, % x: %d, %d; want %d", n.name, len(b), b[:min(len(b), 70)], v.Dst, f, e)
	}
	return e
}

func testFaultUDP(t *testing.T, name string, n network, b []byte, want api.Errno) {
	t.Helper()
	if e := testReadUDP(t, n, b); e != want {
		t.Errorf("%s: %s, %d bytes: %d, want %d", n.name, name, len(b), e, want)
	}
}

func testFaultTCP(t *testing.T, name string, n network, b []byte, want api.Errno) {
	t.Helper()
	if e := testReadTCP(t, n, b); e != want {
		t.Errorf("%s: %s, %d bytes: %d, want %d", n.name, name, len(b), e, want)
	}
}

// madeUDP is so many bytes that say a length, with a right checksum, if that is there.
func madeUDP(n network, length, size int) []byte {
	b := make([]byte, max(size, 8))
	for i := range b {
		b[i] = byte(7*i + 3)
	}
	binary.BigEndian.PutUint16(b[4:], uint16(length))
	if size < 8 {
		return b[:size]
	}
	setSum(n, 17, b)
	return b
}

// madeTCP is so many bytes that say a length ahead of Data in fourths, with a right checksum, if that is there.
func madeTCP(n network, fourths byte, size int) []byte {
	b := make([]byte, max(size, 20))
	for i := range b {
		b[i] = byte(11*i + 5)
	}
	b[12] = fourths<<4 | 0xa
	setSum(n, 6, b)
	return b[:size]
}

// P6.2: fewer than 8 bytes, and lengths that are not so.
func TestUDPLengths(t *testing.T) {
	for _, n := range networks(dice()) {
		testFaultUDP(t, "nil", n, nil, api.ErrShortSeg)
		testFaultUDP(t, "empty", n, []byte{}, api.ErrShortSeg)
		for size := range 8 {
			testFaultUDP(t, "short", n, madeUDP(n, size, size), api.ErrShortSeg)
			testFaultUDP(t, "short", n, madeUDP(n, 8, size), api.ErrShortSeg)
		}
		for _, size := range []int{8, 9, 10, 255, 256, 257, 65534, 65535} {
			testFaultUDP(t, "right", n, madeUDP(n, size, size), api.OK)
			testFaultUDP(t, "one less", n, madeUDP(n, size-1, size), api.ErrLengthSeg)
			testFaultUDP(t, "nothing", n, madeUDP(n, 0, size), api.ErrLengthSeg)
			testFaultUDP(t, "without the header", n, madeUDP(n, size-8, size), api.ErrLengthSeg)
			testFaultUDP(t, "bytes turned", n, madeUDP(n, size<<8|size>>8, size), lengthError(size != 257 && size != 65535))
			if size < 65535 {
				testFaultUDP(t, "one more", n, madeUDP(n, size+1, size), api.ErrLengthSeg)
			}
		}
		for length := range 1 << 12 {
			testFaultUDP(t, "a length", n, madeUDP(n, length, 100), lengthError(length != 100))
		}
		for _, size := range []int{65536, 65537, 65536 + 8, 1 << 17, 1<<17 + 8} {
			testFaultUDP(t, "more than MaxPacket", n, madeUDP(n, size, size), api.ErrLengthSeg)
			testFaultUDP(t, "more than MaxPacket", n, madeUDP(n, 65535, size), api.ErrLengthSeg)
			testFaultUDP(t, "more than MaxPacket", n, madeUDP(n, 0, size), api.ErrLengthSeg)
		}
	}
}

func lengthError(wrong bool) api.Errno {
	if wrong {
		return api.ErrLengthSeg
	}
	return api.OK
}

// P6.3: fewer than 20 bytes, and each length ahead of Data.
func TestTCPLengths(t *testing.T) {
	for _, n := range networks(dice()) {
		testFaultTCP(t, "nil", n, nil, api.ErrShortSeg)
		testFaultTCP(t, "empty", n, []byte{}, api.ErrShortSeg)
		for size := range 20 {
			for fourths := range byte(16) {
				testFaultTCP(t, "short", n, madeTCP(n, fourths, size), api.ErrShortSeg)
			}
		}
		for size := 20; size < 70; size++ {
			for fourths := range byte(16) {
				ahead := 4 * int(fourths)
				testFaultTCP(t, "a length", n, madeTCP(n, fourths, size), lengthError(ahead < 20 || ahead > size))
			}
		}
		for _, c := range []struct {
			fourths byte
			size    int
			want    api.Errno
		}{
			{5, 65534, api.OK}, {5, 65535, api.OK}, {15, 65535, api.OK}, {4, 65535, api.ErrLengthSeg},
			{5, 65536, api.ErrLong}, {15, 65536, api.ErrLong}, {5, 65537, api.ErrLong}, {5, 65536 + 20, api.ErrLong}, {5, 1 << 17, api.ErrLong},
			{4, 65536, api.ErrLengthSeg}, {0, 65536 + 20, api.ErrLengthSeg}, {4, 1 << 17, api.ErrLengthSeg},
		} {
			testFaultTCP(t, "long", n, madeTCP(n, c.fourths, c.size), c.want)
		}
	}
}

// P6.2: a checksum 0 over IPv4 is not asked, and told; over IPv6 it is an error.
func TestUDPChecksumNone(t *testing.T) {
	r := dice()
	for range 500 {
		for _, n := range networks(r) {
			u := someUDP(r)
			b := plainUDP(n, u)
			b[6], b[7] = 0, 0
			v, none, e := n.parseUDP(b)
			if n.six && (!zeroUDP(v) || e != api.ErrSumSeg) {
				t.Fatalf("% x: %+v, %d", b, v, e)
			}
			if !n.six && (!likeUDP(u, v) || !none || e != api.OK) {
				t.Fatalf("% x: %+v, %t, %d", b, v, none, e)
			}
			testFaultUDP(t, "none, and short", n, b[:7], api.ErrShortSeg)
			testFaultUDP(t, "none, and a wrong length", n, append(b, 0), api.ErrLengthSeg)
		}
	}
}

// P6.2: over IPv6 a checksum 0 is an error also where it makes the sum 65535.
func TestUDPChecksumNoneRight(t *testing.T) {
	r := dice()
	for range 300 {
		n := someNetwork(r, true)
		u := someUDP(r)
		u.Dst = 0
		u.Dst = binary.BigEndian.Uint16(plainUDP(n, u)[6:])
		b := plainUDP(n, u)
		b[6], b[7] = 0, 0
		if plainSum(append(n.pseudo(17, len(b)), b...)) != 65535 {
			t.Fatalf("the test's own sum: % x", b)
		}
		testFaultUDP(t, "none, and a right sum", n, b, api.ErrSumSeg)
	}
}

// P6.2, P6.3: each checksum but the right one is wrong; of 0 and 65535 both may be right.
func TestChecksums(t *testing.T) {
	r := dice()
	for _, n := range networks(r) {
		b, c := plainUDP(n, api.UDP{Src: 5, Data: []byte{1, 2, 3}}), plainTCP(n, api.TCP{Src: 5, Data: []byte{1, 2, 3}})
		right, rightTCP := binary.BigEndian.Uint16(b[6:]), binary.BigEndian.Uint16(c[16:])
		for x := range 1 << 16 {
			binary.BigEndian.PutUint16(b[6:], uint16(x))
			binary.BigEndian.PutUint16(c[16:], uint16(x))
			wantUDP, wantTCP := api.OK, api.OK
			if uint16(x) != right && (x != 0 || n.six) {
				wantUDP = api.ErrSumSeg
			}
			if uint16(x) != rightTCP {
				wantTCP = api.ErrSumSeg
			}
			testFaultUDP(t, "a checksum", n, b, wantUDP)
			testFaultTCP(t, "a checksum", n, c, wantTCP)
		}
	}
}

// P6.2, P6.3: each bit turned alone, of the bytes, of the addresses, and of which protocol it is.
func TestOneBit(t *testing.T) {
	r := dice()
	for range 40 {
		for _, n := range networks(r) {
			udp, tcp := plainUDP(n, someUDP(r)), plainTCP(n, someTCP(r))
			for bit := range 8 * len(udp) {
				b := bytes.Clone(udp)
				b[bit/8] ^= 0x80 >> (bit % 8)
				if e := testReadUDP(t, n, b); e == api.OK && (n.six || b[6] != 0 || b[7] != 0) {
					t.Fatalf("%s: bit %d of % x turned", n.name, bit, udp)
				}
			}
			for bit := range 8 * len(tcp) {
				b := bytes.Clone(tcp)
				b[bit/8] ^= 0x80 >> (bit % 8)
				if e := testReadTCP(t, n, b); e == api.OK {
					t.Fatalf("%s: bit %d of % x turned", n.name, bit, tcp)
				}
			}
			for bit := range 8 * len(n.src) {
				for _, side := range [][]byte{n.src, n.dst} {
					side[bit/8] ^= 0x80 >> (bit % 8)
					testFaultUDP(t, "another address", n, udp, api.ErrSumSeg)
					testFaultTCP(t, "another address", n, tcp, api.ErrSumSeg)
					side[bit/8] ^= 0x80 >> (bit % 8)
				}
			}
			testFaultUDP(t, "as it was", n, udp, api.OK)
			testFaultTCP(t, "as it was", n, tcp, api.OK)
		}
	}
}

// P6.3: the six bits that say 0 may be anything; they are no flags, and written again they are 0.
func TestBitsThatSayZero(t *testing.T) {
	r := dice()
	for bits := range 64 {
		for _, n := range networks(r) {
			s := someTCP(r)
			b := plainTCP(n, s)
			b[12] |= byte(bits >> 2)
			b[13] |= byte(bits << 6)
			if bits != 0 {
				testFaultTCP(t, "bits without a right sum", n, b, api.ErrSumSeg)
			}
			setSum(n, 6, b)
			v, e := n.parseTCP(b)
			if !likeTCP(s, v) || e != api.OK {
				t.Fatalf("%s: % x: %+v, %d", n.name, b, v, e)
			}
			if again, e := n.writeTCP(v); !bytes.Equal(again, plainTCP(n, s)) || e != api.OK {
				t.Fatalf("%s: % x: written again % x, %d", n.name, b, again, e)
			}
		}
	}
}

// P6.2, P6.3: of several faults the one that is named first.
func TestFaultsFirst(t *testing.T) {
	for _, n := range networks(dice()) {
		testFaultUDP(t, "short, length, none", n, make([]byte, 7), api.ErrShortSeg)
		testFaultUDP(t, "length, none", n, make([]byte, 8), api.ErrLengthSeg)
		testFaultUDP(t, "length, sum", n, bytes.Repeat([]byte{1}, 300), api.ErrLengthSeg)
		testFaultTCP(t, "short, length, sum", n, make([]byte, 19), api.ErrShortSeg)
		testFaultTCP(t, "length below, sum", n, make([]byte, 20), api.ErrLengthSeg)
		testFaultTCP(t, "length above, sum", n, bytes.Repeat([]byte{0x60}, 20), api.ErrLengthSeg)
		testFaultTCP(t, "length, long, sum", n, make([]byte, 65536), api.ErrLengthSeg)
		testFaultTCP(t, "long, sum", n, bytes.Repeat([]byte{0x50}, 65536), api.ErrLong)
	}
}

// P6.2, P6.3: at each place of cutting off.
func TestCutOff(t *testing.T) {
	r := dice()
	for range 50 {
		for _, n := range networks(r) {
			b := plainUDP(n, someUDP(r))
			for size := range len(b) {
				want := api.ErrLengthSeg
				if size < 8 {
					want = api.ErrShortSeg
				}
				testFaultUDP(t, "cut off", n, b[:size], want)
			}
			b = plainTCP(n, someTCP(r))
			for size := range len(b) {
				testReadTCP(t, n, b[:size])
			}
		}
	}
}

// disturbed is bytes that are no segment, or hardly one.
func disturbed(r *rand.Rand, n network, proto byte, b []byte) []byte {
	for range 1 + r.IntN(3) {
		switch r.IntN(6) {
		case 0:
			b = b[:r.IntN(len(b)+1)]
		case 1:
			b = append(b, someBytes(r, 1+r.IntN(4))...)
		case 2:
			if len(b) > 5 {
				binary.BigEndian.PutUint16(b[4:], uint16(len(b)+r.IntN(3)-1))
			}
		case 3:
			if len(b) > 12 {
				b[12] = byte(r.Uint32())
			}
		case 4:
			if len(b) > 0 {
				b[r.IntN(len(b))] ^= 1 << r.IntN(8)
			}
		case 5:
			if len(b) >= 18 {
				setSum(n, proto, b)
			}
		}
	}
	return b
}

// P6.2, P6.3: random bytes, and segments that somebody disturbed; what is read of them is written as the same bytes again.
func TestRandomBytes(t *testing.T) {
	r := dice()
	for range 10000 {
		for _, n := range networks(r) {
			b := someBytes(r, r.IntN(80))
			testReadUDP(t, n, b)
			testReadTCP(t, n, b)
			b = disturbed(r, n, 17, plainUDP(n, someUDP(r)))
			if e := testReadUDP(t, n, b); e == api.OK && (b[6] != 0 || b[7] != 0) {
				u, _, _ := n.parseUDP(b)
				if again, e := n.writeUDP(u); !bytes.Equal(again, b) || e != api.OK {
					t.Fatalf("%s: % x: written again % x, %d", n.name, b, again, e)
				}
			}
			b = disturbed(r, n, 6, plainTCP(n, someTCP(r)))
			if e := testReadTCP(t, n, b); e == api.OK && b[12]&15 == 0 && b[13] < 64 && (b[16] != 255 || b[17] != 255) {
				s, _ := n.parseTCP(b)
				if again, e := n.writeTCP(s); !bytes.Equal(again, b) || e != api.OK {
					t.Fatalf("%s: % x: written again % x, %d", n.name, b, again, e)
				}
			}
		}
	}
}

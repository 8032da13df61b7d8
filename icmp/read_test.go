package icmp_test

import (
	"bytes"
	"encoding/binary"
	"math/rand/v2"
	"testing"

	"ferryman/api"
)

// plainRead is the chapter's reading of a message, written apart from the program.
func plainRead(n network, b []byte) (m api.Icmp, e api.Errno) {
	if len(b) < 8 {
		return m, 70
	}
	if len(b) > 65535 {
		return m, 2
	}
	if n.sum(b) != 65535 {
		return m, 71
	}
	return api.Icmp{Type: b[0], Code: b[1], Rest: binary.BigEndian.Uint32(b[4:]), Body: b[8:]}, 0
}

// testRead holds Parse against the chapter's reading, and answers its error.
func testRead(t *testing.T, n network, b []byte) api.Errno {
	t.Helper()
	m, e := plainRead(n, b)
	if v, f := n.parse(b); !like(m, v) || f != e || e != api.OK && !zero(v) {
		t.Fatalf("%s, %d bytes, % x: Type %d, Code %d, Rest %x, %d of Body, %d; want %d", n.name, len(b), b[:min(len(b), 50)], v.Type, v.Code, v.Rest, len(v.Body), f, e)
	}
	return e
}

func testFault(t *testing.T, name string, n network, b []byte, want api.Errno) {
	t.Helper()
	if e := testRead(t, n, b); e != want {
		t.Errorf("%s: %s, %d bytes: %d, want %d", n.name, name, len(b), e, want)
	}
}

// made is so many bytes with a right checksum, if there is room for it.
func made(n network, size int) []byte {
	b := make([]byte, size)
	for i := range b {
		b[i] = byte(7*i + 3)
	}
	if size > 3 {
		setSum(n, b)
	}
	return b
}

// P7.2 and rule 2: how many bytes; nil and empty are alike.
func TestReadLength(t *testing.T) {
	for _, n := range networks(dice()) {
		testFault(t, "nil", n, nil, api.ErrShortIcmp)
		testFault(t, "empty", n, []byte{}, api.ErrShortIcmp)
		for size := range 8 {
			testFault(t, "short", n, made(n, size), api.ErrShortIcmp)
		}
		for _, size := range []int{8, 9, 10, 11, 255, 256, 257, 65533, 65534, 65535} {
			testFault(t, "right", n, made(n, size), api.OK)
		}
		for _, size := range []int{65536, 65537, 65536 + 7, 65536 + 8, 1 << 17, 1<<17 + 8, 1 << 20} {
			testFault(t, "long", n, made(n, size), api.ErrLong)
		}
	}
}

// P7.2: of several faults the one that is named first.
func TestFaultsFirst(t *testing.T) {
	for _, n := range networks(dice()) {
		for size := range 8 {
			testFault(t, "short, and a wrong sum", n, make([]byte, size), api.ErrShortIcmp)
		}
		for _, size := range []int{65536, 65537, 1 << 17, 1 << 20} {
			testFault(t, "long, and a wrong sum", n, make([]byte, size), api.ErrLong)
			testFault(t, "long, and a wrong sum", n, bytes.Repeat([]byte{5}, size), api.ErrLong)
		}
		for _, size := range []int{8, 9, 65534, 65535} {
			testFault(t, "a wrong sum", n, make([]byte, size), api.ErrSumIcmp)
		}
	}
}

// P7.2: each checksum but the right one is wrong.
func TestChecksums(t *testing.T) {
	for _, n := range networks(dice()) {
		for _, size := range []int{8, 11} {
			b := made(n, size)
			right := binary.BigEndian.Uint16(b[2:])
			for x := range 1 << 16 {
				binary.BigEndian.PutUint16(b[2:], uint16(x))
				want := api.OK
				if uint16(x) != right {
					want = api.ErrSumIcmp
				}
				testFault(t, "a checksum", n, b, want)
			}
		}
	}
}

// P7.2, P7.7: each bit of written bytes turned alone.
func TestOneBit(t *testing.T) {
	r := dice()
	for range 200 {
		for _, n := range networks(r) {
			for _, m := range []api.Icmp{someMessage(r), {}, {Type: 255, Code: 255, Rest: 0xffffffff}, {Body: make([]byte, r.IntN(5))}} {
				b, e := n.write(m)
				if e != api.OK {
					t.Fatal(e)
				}
				for bit := range 8 * len(b) {
					b[bit/8] ^= 0x80 >> (bit % 8)
					testFault(t, "a bit turned", n, b, api.ErrSumIcmp)
					b[bit/8] ^= 0x80 >> (bit % 8)
				}
				testFault(t, "as it was", n, b, api.OK)
			}
		}
	}
}

// P7.7: bits of the longest message there is, turned alone.
func TestOneBitOfMany(t *testing.T) {
	for _, n := range networks(dice()) {
		b, e := n.write(api.Icmp{Type: 8, Body: make([]byte, 65527)})
		if e != api.OK {
			t.Fatal(e)
		}
		for bit := 0; bit < 8*len(b); bit += 4999 {
			b[bit/8] ^= 0x80 >> (bit % 8)
			testFault(t, "a bit turned", n, b, api.ErrSumIcmp)
			b[bit/8] ^= 0x80 >> (bit % 8)
		}
	}
}

// P7.2: over IPv6 another src, another dst, each by a bit; and what is right over IPv4 is not so over IPv6.
func TestOtherEnds(t *testing.T) {
	r := dice()
	for range 200 {
		all := networks(r)
		four, six := all[0], all[1]
		m := someMessage(r)
		b := plainBytes(six, m)
		for bit := range 128 {
			other := six
			other.src[bit/8] ^= 0x80 >> (bit % 8)
			testFault(t, "another src", other, b, api.ErrSumIcmp)
			other = six
			other.dst[bit/8] ^= 0x80 >> (bit % 8)
			testFault(t, "another dst", other, b, api.ErrSumIcmp)
		}
		testFault(t, "as it was", six, b, api.OK)
		testRead(t, four, b)
		testRead(t, six, plainBytes(four, m))
	}
	zeros := network{name: "IPv6", six: true}
	testFault(t, "IPv4's", zeros, plainBytes(network{}, api.Icmp{Type: 8}), api.ErrSumIcmp)
	testFault(t, "IPv6's", network{name: "IPv4"}, plainBytes(zeros, api.Icmp{Type: 8}), api.ErrSumIcmp)
}

// P7.2: a byte 0 behind an odd number of bytes changes no sum; over IPv6 their number stands in the pseudo header.
func TestOneZeroMore(t *testing.T) {
	r := dice()
	for range 200 {
		for _, n := range networks(r) {
			b := plainBytes(n, api.Icmp{Type: 8, Rest: r.Uint32(), Body: someBytes(r, 1+2*r.IntN(20))})
			want := api.OK
			if n.six {
				want = api.ErrSumIcmp
			}
			testFault(t, "a byte 0 behind", n, append(b, 0), want)
			testFault(t, "as it was", n, b, api.OK)
		}
	}
}

// P7.2: at each place of cutting off.
func TestCutOff(t *testing.T) {
	r := dice()
	for range 300 {
		for _, n := range networks(r) {
			b := plainBytes(n, someMessage(r))
			for size := range b {
				testRead(t, n, b[:size])
			}
		}
	}
}

// disturbed is bytes that are no message, or hardly one.
func disturbed(r *rand.Rand, n network, b []byte) []byte {
	for range 1 + r.IntN(3) {
		switch r.IntN(5) {
		case 0:
			b = b[:r.IntN(len(b)+1)]
		case 1:
			b = append(b, someBytes(r, 1+r.IntN(4))...)
		case 2:
			if len(b) > 0 {
				b[r.IntN(len(b))] ^= 1 << r.IntN(8)
			}
		case 3:
			if len(b) > 3 {
				b[2], b[3] = byte(r.Uint32()), byte(r.Uint32())
			}
		case 4:
			if len(b) > 3 {
				setSum(n, b)
			}
		}
	}
	return b
}

// P7.2: random bytes, and messages that somebody disturbed; what is read of them is written as the same bytes again.
func TestRandomBytes(t *testing.T) {
	r := dice()
	read := 0
	for range 20000 {
		for _, n := range networks(r) {
			testRead(t, n, someBytes(r, r.IntN(60)))
			b := disturbed(r, n, plainBytes(n, someMessage(r)))
			if e := testRead(t, n, b); e != api.OK {
				continue
			}
			read++
			m, _ := n.parse(b)
			if again, e := n.write(m); !bytes.Equal(again, b) || e != api.OK {
				t.Fatalf("%s: % x: written again % x, %d", n.name, b, again, e)
			}
		}
	}
	if read < 1000 {
		t.Errorf("only %d of them were messages", read)
	}
}

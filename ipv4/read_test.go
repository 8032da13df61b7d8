package ipv4_test

import (
	"bytes"
	"encoding/binary"
	"math/rand/v2"
	"testing"

	"ferryman/api"
	"ferryman/ipv4"
)

// plainRead is the chapter's reading of bytes, written apart from the program: part: as Part does it.
func plainRead(b []byte, part bool) (api.V4, int, api.Errno) {
	if len(b) < 20 {
		return api.V4{}, 0, api.ErrShort4
	}
	if b[0]/16 != 4 {
		return api.V4{}, 0, api.ErrVersion4
	}
	size := int(b[0]) % 16 * 4
	if size < 20 || size > len(b) {
		return api.V4{}, 0, api.ErrHead4
	}
	all := int(binary.BigEndian.Uint16(b[2:]))
	if all < len(b) || all < size || all > len(b) && !part {
		return api.V4{}, 2, api.ErrLength4
	}
	if !part && plainSum(b[:size]) != 65535 {
		return api.V4{}, 10, api.ErrSum4
	}
	word := int(binary.BigEndian.Uint16(b[6:]))
	return api.V4{
		TOS: b[1], ID: binary.BigEndian.Uint16(b[4:]), DF: word/16384%2 == 1, MF: word/8192%2 == 1, Off: word % 8192,
		TTL: b[8], Proto: b[9], Src: api.Addr4(b[12:16]), Dst: api.Addr4(b[16:20]), Options: b[20:size], Body: b[size:],
	}, 0, api.OK
}

// testRead holds Parse and Part against the chapter's reading.
func testRead(t *testing.T, b []byte) {
	t.Helper()
	v, at, e := plainRead(b, false)
	if w, p, f := ipv4.Parse(b); !like(v, w) || p != at || f != e || e != api.OK && !zero(w) {
		t.Fatalf("Parse(% x) = %+v, %d, %d; want %+v, %d, %d", b, w, p, f, v, at, e)
	}
	v, at, e = plainRead(b, true)
	if w, p, f := ipv4.Part(b); !like(v, w) || p != at || f != e || e != api.OK && !zero(w) {
		t.Fatalf("Part(% x) = %+v, %d, %d; want %+v, %d, %d", b, w, p, f, v, at, e)
	}
}

// testFault asks for the errors of Parse and Part, the place of both, and no datagram.
func testFault(t *testing.T, name string, b []byte, parse, part api.Errno) {
	t.Helper()
	place := func(e api.Errno) int {
		switch e {
		case api.ErrLength4:
			return 2
		case api.ErrSum4:
			return 10
		}
		return 0
	}
	if v, at, e := ipv4.Parse(b); e != parse || at != place(parse) || parse != api.OK && !zero(v) {
		t.Errorf("%s: Parse(% x) = %+v, %d, %d, want %d", name, b, v, at, e, parse)
	}
	if v, at, e := ipv4.Part(b); e != part || at != place(part) || part != api.OK && !zero(v) {
		t.Errorf("%s: Part(% x) = %+v, %d, %d, want %d", name, b, v, at, e, part)
	}
	testRead(t, b)
}

// made is bytes of a header's length in fourths, a length of all, and so many bytes, with a right checksum, if the header is there.
func made(first byte, all, n int) []byte {
	b := make([]byte, n)
	for i := range b {
		b[i] = byte(7*i + 3)
	}
	if n > 0 {
		b[0] = first
	}
	if n >= 4 {
		binary.BigEndian.PutUint16(b[2:], uint16(all))
	}
	if size := int(first&15) * 4; size >= 12 && size <= n {
		setSum(b[:size])
	}
	return b
}

// P4.2, P4.3: each error at its place, at the edges that the chapter names.
func TestFaults(t *testing.T) {
	testFault(t, "nil", nil, api.ErrShort4, api.ErrShort4)
	testFault(t, "empty", []byte{}, api.ErrShort4, api.ErrShort4)
	for n := range 20 {
		testFault(t, "short", made(0x45, n, n), api.ErrShort4, api.ErrShort4)
		testFault(t, "short, cut off", made(0x45, 20, n), api.ErrShort4, api.ErrShort4)
	}
	testFault(t, "a header alone", made(0x45, 20, 20), api.OK, api.OK)
	for version := range byte(16) {
		if version != 4 {
			testFault(t, "another version", made(version<<4|5, 20, 20), api.ErrVersion4, api.ErrVersion4)
		}
	}
	for _, n := range []int{20, 24, 40, 59, 60, 61, 100} {
		for fourths := range byte(16) {
			size, parse := 4*int(fourths), api.OK
			if size < 20 || size > n {
				parse = api.ErrHead4
			}
			testFault(t, "a header's length", made(0x40|fourths, n, n), parse, parse)
		}
	}
}

// P4.2, P4.3: the length of all one less and one more than there are bytes, and less than the header's.
func TestLengths(t *testing.T) {
	for _, c := range []struct {
		first  byte
		all, n int
		part   api.Errno
	}{
		{0x45, 19, 20, api.ErrLength4},
		{0x45, 21, 20, api.OK},
		{0x45, 0, 20, api.ErrLength4},
		{0x45, 65535, 20, api.OK},
		{0x45, 29, 30, api.ErrLength4},
		{0x45, 31, 30, api.OK},
		{0x45, 20, 30, api.ErrLength4},
		{0x45, 19, 30, api.ErrLength4},
		{0x45, 0, 30, api.ErrLength4},
		{0x46, 23, 24, api.ErrLength4},
		{0x46, 25, 24, api.OK},
		{0x46, 20, 24, api.ErrLength4},
		{0x4f, 59, 60, api.ErrLength4},
		{0x4f, 61, 60, api.OK},
		{0x4f, 59, 70, api.ErrLength4},
		{0x4f, 20, 70, api.ErrLength4},
		{0x45, 256, 511, api.ErrLength4},
		{0x45, 511, 256, api.OK},
	} {
		testFault(t, "a length", made(c.first, c.all, c.n), api.ErrLength4, c.part)
	}
	for all := range 200 {
		part := api.ErrLength4
		if all >= 100 {
			part = api.OK
		}
		if all != 100 {
			testFault(t, "a length", made(0x47, all, 100), api.ErrLength4, part)
		}
	}
	for _, n := range []int{65535, 65536, 65536 + 20, 1 << 17} {
		parse := api.OK
		if n > 65535 {
			parse = api.ErrLength4
		}
		testFault(t, "many bytes", made(0x45, n, n), parse, parse)
	}
}

// P4.2, P4.3: the sum is asked by Parse alone, and of the header alone.
func TestSums(t *testing.T) {
	for _, first := range []byte{0x45, 0x46, 0x4f} {
		size := 4 * int(first&15)
		for i := range 80 {
			b := made(first, 80, 80)
			b[i] ^= 0x10
			switch {
			case i == 0 || i == 2 || i == 3:
				testRead(t, b)
			case i < size:
				testFault(t, "a sum", b, api.ErrSum4, api.OK)
			default:
				testFault(t, "a Body", b, api.OK, api.OK)
			}
		}
	}
	b := made(0x45, 20, 20)
	right := binary.BigEndian.Uint16(b[10:])
	for n := range 1 << 16 {
		binary.BigEndian.PutUint16(b[10:], uint16(n))
		if _, at, e := ipv4.Parse(b); (e == api.OK) != (uint16(n) == right) || e != api.OK && (e != api.ErrSum4 || at != 10) {
			t.Fatalf("checksum %04x, right is %04x: %d, %d", n, right, at, e)
		}
	}
}

// P4.2: of several faults the one from the front.
func TestFaultsFirst(t *testing.T) {
	for _, c := range []struct {
		name string
		b    []byte
		e    api.Errno
	}{
		{"short, version, header, length", made(0x61, 0, 19), api.ErrShort4},
		{"version, header, length, sum", append(made(0x61, 0, 20), 0), api.ErrVersion4},
		{"version, length", made(0x65, 21, 20), api.ErrVersion4},
		{"header below, length", made(0x44, 3, 20), api.ErrHead4},
		{"header above, length", made(0x46, 3, 20), api.ErrHead4},
		{"header above, length right", made(0x46, 20, 20), api.ErrHead4},
		{"header above, length as it", made(0x46, 24, 20), api.ErrHead4},
		{"length, sum", append([]byte{0x45, 1}, made(0x45, 19, 20)[2:]...), api.ErrLength4},
	} {
		testFault(t, c.name, c.b, c.e, c.e)
	}
}

// P4.2, P4.8: the bit that says 0 may be anything; written again, it is 0.
func TestBitThatSaysZero(t *testing.T) {
	r := dice()
	for range 500 {
		v := someV4(r)
		b := plainBytes(v)
		size := 20 + len(v.Options)
		b[6] |= 0x80
		if w, at, e := ipv4.Parse(b); !zero(w) || at != 10 || e != api.ErrSum4 {
			t.Fatalf("% x: %+v, %d, %d", b, w, at, e)
		}
		setSum(b[:size])
		w, at, e := ipv4.Parse(b)
		if !like(v, w) || at != 0 || e != api.OK {
			t.Fatalf("% x: %+v, %d, %d", b, w, at, e)
		}
		if w, at, e := ipv4.Part(b); !like(v, w) || at != 0 || e != api.OK {
			t.Fatalf("% x: Part = %+v, %d, %d", b, w, at, e)
		}
		if again, e := ipv4.Write(w); !bytes.Equal(again, plainBytes(v)) || e != api.OK {
			t.Fatalf("% x: written again % x, %d", b, again, e)
		}
	}
}

// P4.8: a checksum of 65535 may stand for 0, and is written as 0.
func TestChecksumZero(t *testing.T) {
	r := dice()
	for range 500 {
		v := someV4(r)
		v.ID = 0
		b := plainBytes(v)
		// With the checksum as ID, the other words' sum is 65535.
		v.ID = binary.BigEndian.Uint16(b[10:])
		b, e := ipv4.Write(v)
		if e != api.OK || b[10] != 0 || b[11] != 0 {
			t.Fatalf("%+v: % x, %d", v, b, e)
		}
		if w, at, e := ipv4.Parse(b); !like(v, w) || at != 0 || e != api.OK {
			t.Fatalf("% x: %+v, %d, %d", b, w, at, e)
		}
		ones := bytes.Clone(b)
		ones[10], ones[11] = 255, 255
		w, at, e := ipv4.Parse(ones)
		if !like(v, w) || at != 0 || e != api.OK {
			t.Fatalf("% x: %+v, %d, %d", ones, w, at, e)
		}
		if again, e := ipv4.Write(w); !bytes.Equal(again, b) || e != api.OK {
			t.Fatalf("% x: written again % x, %d", ones, again, e)
		}
	}
}

// P4.3, P4.9: at each place where some of the Body is cut off; nearer to the front nothing is made.
func TestCutOff(t *testing.T) {
	r := dice()
	for range 300 {
		v := someV4(r)
		b, _ := ipv4.Write(v)
		size := 20 + len(v.Options)
		for n := range len(b) + 1 {
			w, at, e := ipv4.Part(b[:n])
			switch {
			case n < 20:
				if !zero(w) || at != 0 || e != api.ErrShort4 {
					t.Fatalf("% x, %d bytes: %+v, %d, %d", b, n, w, at, e)
				}
			case n < size:
				if !zero(w) || at != 0 || e != api.ErrHead4 {
					t.Fatalf("% x, %d bytes: %+v, %d, %d", b, n, w, at, e)
				}
			default:
				want := v
				want.Body = v.Body[:n-size]
				if !like(want, w) || at != 0 || e != api.OK {
					t.Fatalf("% x, %d bytes: %+v, %d, %d", b, n, w, at, e)
				}
			}
			testRead(t, b[:n])
		}
		if w, at, e := ipv4.Part(append(b, 0)); !zero(w) || at != 2 || e != api.ErrLength4 {
			t.Fatalf("% x and 0: %+v, %d, %d", b, w, at, e)
		}
	}
}

// P4.10: each bit of a written header turned.
func TestOneBit(t *testing.T) {
	r := dice()
	for range 400 {
		v := someV4(r)
		b, _ := ipv4.Write(v)
		for bit := range 8 * (20 + len(v.Options)) {
			turned := bytes.Clone(b)
			turned[bit/8] ^= 0x80 >> (bit % 8)
			testRead(t, turned)
			if bit >= 4 && bit < 8 {
				continue // a header's length
			}
			if w, _, e := ipv4.Parse(turned); !zero(w) || e == api.OK {
				t.Fatalf("bit %d of % x turned: %+v, %d", bit, b, w, e)
			}
		}
	}
}

// disturbed is bytes that are no datagram, or hardly one.
func disturbed(r *rand.Rand, b []byte) []byte {
	for range 1 + r.IntN(3) {
		switch r.IntN(6) {
		case 0:
			b = b[:r.IntN(len(b)+1)]
		case 1:
			b = append(b, someBytes(r, 1+r.IntN(4))...)
		case 2:
			if len(b) > 3 {
				binary.BigEndian.PutUint16(b[2:], uint16(len(b)+r.IntN(3)-1))
			}
		case 3:
			if len(b) > 0 {
				b[0] = 0x40 | byte(r.IntN(16))
			}
		case 4:
			if len(b) > 0 {
				b[r.IntN(len(b))] ^= 1 << r.IntN(8)
			}
		case 5:
			if size := 4 * int(append(b, 0)[0]&15); size >= 12 && size <= len(b) {
				setSum(b[:size])
			}
		}
	}
	return b
}

// P4.2, P4.3, P4.8: random bytes, and datagrams that somebody disturbed.
func TestRandomBytes(t *testing.T) {
	r := dice()
	for range 20000 {
		testRead(t, someBytes(r, r.IntN(80)))
		b := disturbed(r, plainBytes(someV4(r)))
		testRead(t, b)
		v, _, e := ipv4.Parse(b)
		if e != api.OK || b[6]&0x80 != 0 || b[10] == 255 && b[11] == 255 {
			continue
		}
		if again, e := ipv4.Write(v); !bytes.Equal(again, b) || e != api.OK {
			t.Fatalf("% x: written again % x, %d", b, again, e)
		}
	}
}

package ipv6_test

import (
	"bytes"
	"encoding/binary"
	"math/rand/v2"
	"testing"

	"ferryman/api"
	"ferryman/ipv6"
)

// plainRead is the chapter's reading of bytes, written apart from the program; part: as Part does it.
func plainRead(b []byte, part bool) (api.V6, int, api.Errno) {
	switch {
	case len(b) < 40:
		return api.V6{}, 0, api.ErrShort6
	case b[0]/16 != 6:
		return api.V6{}, 0, api.ErrVersion6
	}
	says, is := int(b[4])*256+int(b[5]), len(b)-40
	if is > says || is < says && !part {
		return api.V6{}, 4, api.ErrLength6
	}
	v := api.V6{
		Class: b[0]%16*16 + b[1]/16, Label: uint32(b[1]%16)*65536 + uint32(b[2])*256 + uint32(b[3]),
		Hop: b[7], Src: api.Addr6(b[8:24]), Dst: api.Addr6(b[24:40]),
	}
	heads, at, next, e := plainHeads(b, 40, b[6], nil)
	if e != api.OK {
		return api.V6{}, at, e
	}
	if next == 44 {
		if at+8 > len(b) {
			return api.V6{}, at, api.ErrShort6
		}
		word := int(b[at+2])*256 + int(b[at+3])
		v.Frag, v.Off, v.More, v.ID = true, word/8, word%2 == 1, binary.BigEndian.Uint32(b[at+4:])
		at, next = at+8, b[at]
	}
	v.Heads, v.Proto, v.Body = heads, next, b[at:]
	return v, 0, api.OK
}

// plainHeads are the heads from a place on behind those ahead of it; where they end; what is said to stand there.
func plainHeads(b []byte, at int, next byte, ahead []api.Head) ([]api.Head, int, byte, api.Errno) {
	if next != 0 && next != 43 && next != 60 {
		return ahead, at, next, api.OK
	}
	if at+8 > len(b) || at+8+8*int(b[at+1]) > len(b) {
		return nil, at, 0, api.ErrShort6
	}
	if next == 0 && at != 40 || len(ahead) == 8 {
		return nil, at, 0, api.ErrHead6
	}
	end := at + 8 + 8*int(b[at+1])
	return plainHeads(b, end, b[at], append(ahead, api.Head{Kind: next, Body: b[at+2 : end]}))
}

// testRead holds Parse and Part against the chapter's reading, and what they read against Check.
func testRead(t *testing.T, b []byte) {
	t.Helper()
	for _, part := range []bool{false, true} {
		read := ipv6.Parse
		if part {
			read = ipv6.Part
		}
		want, place, fault := plainRead(b, part)
		v, at, e := read(b)
		if !like(v, want) || at != place || e != fault || e != api.OK && !zero(v) {
			t.Fatalf("% x, part %t: %+v, %d, %d; want %+v, %d, %d", b, part, v, at, e, want, place, fault)
		}
		if e == api.OK && ipv6.Check(v) != api.OK {
			t.Fatalf("% x, part %t: %+v is none: %d", b, part, v, ipv6.Check(v))
		}
	}
}

// testFault asks for the error and the place of both Parse and Part, and no datagram.
func testFault(t *testing.T, name string, b []byte, place int, want api.Errno) {
	t.Helper()
	if v, at, e := ipv6.Parse(b); e != want || at != place || want != api.OK && !zero(v) {
		t.Errorf("%s: Parse(% x) = %+v, %d, %d; want %d, %d", name, b, v, at, e, place, want)
	}
	testPart(t, name, b, place, want)
}

// testPart asks for the error and the place of Part alone, and no datagram.
func testPart(t *testing.T, name string, b []byte, place int, want api.Errno) {
	t.Helper()
	if v, at, e := ipv6.Part(b); e != want || at != place || want != api.OK && !zero(v) {
		t.Errorf("%s: Part(% x) = %+v, %d, %d; want %d, %d", name, b, v, at, e, place, want)
	}
	testRead(t, b)
}

// made is a front that says what stands behind it, and that.
func made(next byte, behind ...byte) []byte {
	b := make([]byte, 40, 40+len(behind))
	for i := range b {
		b[i] = byte(7*i + 3)
	}
	b[0], b[6] = 0x65, next
	binary.BigEndian.PutUint16(b[4:], uint16(len(behind)))
	return append(b, behind...)
}

// head is a head's bytes with 8 times so many and 8 more.
func head(next byte, more byte) []byte {
	b := bytes.Repeat([]byte{0xaa}, 8+8*int(more))
	b[0], b[1] = next, more
	return b
}

// row is many parts behind each other.
func row(parts ...[]byte) []byte { return bytes.Join(parts, nil) }

// P5.2, P5.3: fewer than 40 bytes, and another version.
func TestFront(t *testing.T) {
	testFault(t, "nil", nil, 0, api.ErrShort6)
	testFault(t, "empty", []byte{}, 0, api.ErrShort6)
	whole := made(17)
	for n := range 40 {
		testFault(t, "short", whole[:n], 0, api.ErrShort6)
		other := bytes.Clone(whole[:n])
		if n > 0 {
			other[0] = 0x45
		}
		testFault(t, "short, of another version", other, 0, api.ErrShort6)
	}
	testFault(t, "a front alone", whole, 0, api.OK)
	for version := range byte(16) {
		want := api.ErrVersion6
		if version == 6 {
			want = api.OK
		}
		b := made(17, 1, 2, 3)
		b[0] = version<<4 | 5
		testFault(t, "a version", b, 0, want)
		if version != 6 {
			b[5]++
			testFault(t, "another version and length", b, 0, want)
			b[6] = 60
			testFault(t, "another version, length and a head cut off", b, 0, want)
		}
	}
}

// P5.2, P5.3: the length one less and one more than there are bytes, and less than there are for Part.
func TestLengths(t *testing.T) {
	for _, behind := range []int{0, 1, 2, 8, 255, 256, 257, 65534, 65535} {
		b := made(17, make([]byte, behind)...)
		testFault(t, "the right length", b, 0, api.OK)
		more := append(bytes.Clone(b), 9)
		testFault(t, "one less than there are", more, 4, api.ErrLength6)
		if behind > 0 {
			cut := b[:len(b)-1]
			if v, at, e := ipv6.Parse(cut); !zero(v) || at != 4 || e != api.ErrLength6 {
				t.Errorf("one more than there are, of %d: Parse = %d, %d", behind, at, e)
			}
			testPart(t, "one more than there are", cut, 0, api.OK)
		}
		testPart(t, "the front alone is left", b[:40], 0, api.OK)
		// 65536 more would be the same length in two bytes.
		testFault(t, "65536 less than there are", append(bytes.Clone(b), make([]byte, 65536)...), 4, api.ErrLength6)
	}
	// The length is told ahead of what the headers are.
	b := made(60, head(0, 0)...)
	b[5]--
	testFault(t, "a length and a head", b, 4, api.ErrLength6)
	b = made(60, 1, 2, 3)
	b[5] = 2
	testFault(t, "a length and a head cut off", b, 4, api.ErrLength6)
}

// P5.2, P5.3: a header of which fewer than 8 bytes are left, and fewer than it says.
func TestHeadersCutOff(t *testing.T) {
	for _, kind := range []byte{0, 43, 44, 60} {
		for n := range 8 {
			b := made(kind, head(17, 0)[:n]...)
			testFault(t, "a first header cut off", b, 40, api.ErrShort6)
			b = made(60, row(head(43, 1), head(kind, 0), head(17, 0)[:n])...)
			testFault(t, "a third header cut off", b, 64, api.ErrShort6)
			b[5] = 200
			testPart(t, "a third header cut off, and all", b, 64, api.ErrShort6)
		}
		testFault(t, "a first header", made(kind, head(17, 0)...), 0, api.OK)
	}
	for _, more := range []byte{1, 2, 3, 128, 255} {
		whole := head(17, more)
		for _, n := range []int{8, 9, len(whole) - 8, len(whole) - 1} {
			if n < len(whole) {
				for _, kind := range []byte{0, 43, 60} {
					testFault(t, "less than a head says", made(kind, whole[:n]...), 40, api.ErrShort6)
				}
				testFault(t, "less than a second head says", made(60, row(head(43, 2), whole[:n])...), 64, api.ErrShort6)
				// A fragment header says nothing of its length.
				testFault(t, "a fragment header", made(44, whole[:n]...), 0, api.OK)
			}
		}
		testFault(t, "all that a head says", made(60, whole...), 0, api.OK)
		testFault(t, "all that a head says, and one more", made(60, append(whole, 1)...), 0, api.OK)
	}
}

// P5.2, P5.3: each place of cutting off, of datagrams with many headers.
func TestCutAnywhere(t *testing.T) {
	r := dice()
	for range 60 {
		v := someV6(r)
		b := plainBytes(v)
		for n := range len(b) {
			testRead(t, b[:n])
			if n >= 40 {
				c := bytes.Clone(b[:n])
				binary.BigEndian.PutUint16(c[4:], uint16(n-40))
				testRead(t, c)
			}
		}
	}
}

// P5.2, P5.3: a kind 0 behind a head, and behind a fragment header, where no more are read.
func TestHopsBehind(t *testing.T) {
	for _, first := range []byte{0, 43, 60} {
		testFault(t, "behind a head", made(first, row(head(0, 0), head(17, 0))...), 48, api.ErrHead6)
		testFault(t, "behind a long head", made(first, row(head(0, 3), head(17, 1))...), 72, api.ErrHead6)
		testFault(t, "behind two heads", made(first, row(head(60, 0), head(0, 0), head(17, 0))...), 56, api.ErrHead6)
		testFault(t, "behind two heads, and again", made(first, row(head(0, 0), head(0, 0), head(17, 0))...), 48, api.ErrHead6)
		// At one place what is cut off is told first.
		testFault(t, "behind a head, cut off", made(first, row(head(0, 0), head(17, 0)[:7])...), 48, api.ErrShort6)
		testFault(t, "behind a head, nothing left", made(first, head(0, 0)...), 48, api.ErrShort6)
		testFault(t, "behind a head, less than it says", made(first, row(head(0, 0), head(17, 2)[:23])...), 48, api.ErrShort6)
		testFault(t, "ahead of one that is cut off", made(first, row(head(0, 0), head(60, 0), head(17, 0)[:7])...), 48, api.ErrHead6)
	}
	for _, proto := range []byte{0, 43, 44, 60} {
		for n := range 20 {
			b := made(44, append(head(proto, 0), make([]byte, n)...)...)
			testFault(t, "behind a fragment header", b, 0, api.OK)
			v, _, _ := ipv6.Parse(b)
			if v.Proto != proto || len(v.Body) != n || len(v.Heads) != 0 {
				t.Errorf("behind a fragment header: %+v", v)
			}
			b = made(60, row(head(44, 0), head(proto, 0), make([]byte, n))...)
			testFault(t, "behind a head and a fragment header", b, 0, api.OK)
		}
	}
}

// P5.2, P5.3: eight heads and the ninth, with a fragment header or without.
func TestNinthHead(t *testing.T) {
	for _, kind := range []byte{43, 60} {
		for n := 1; n < 12; n++ {
			for _, last := range []byte{17, 44, 59} {
				heads := bytes.Repeat(head(kind, 0), n-1)
				b := made(kind, row(heads, head(last, 0), head(0, 0))...)
				if n <= 8 {
					testFault(t, "at most eight heads", b, 0, api.OK)
					continue
				}
				testFault(t, "nine heads", b, 40+8*8, api.ErrHead6)
				b[6] = 0
				testFault(t, "nine heads, the first of kind 0", b, 40+8*8, api.ErrHead6)
			}
		}
		eight := bytes.Repeat(head(kind, 0), 8)
		// At one place what is cut off is told first.
		testFault(t, "a ninth head, nothing left", made(kind, eight...), 40+8*8, api.ErrShort6)
		testFault(t, "a ninth head, cut off", made(kind, append(eight, 17, 0, 0, 0, 0, 0, 0)...), 40+8*8, api.ErrShort6)
		testFault(t, "a ninth head, less than it says", made(kind, row(eight, head(17, 1)[:15])...), 40+8*8, api.ErrShort6)
		testFault(t, "a tenth head, cut off", made(kind, row(eight, head(60, 0))...), 40+8*8, api.ErrHead6)
		// A fragment header behind eight heads is no ninth one, but may be cut off.
		eight[7*8] = 44
		testFault(t, "a fragment header cut off", made(kind, append(eight, 17, 0, 0, 0, 0, 0, 0)...), 40+8*8, api.ErrShort6)
		eight[7*8] = 0
		testFault(t, "a ninth head of kind 0", made(kind, row(eight, head(17, 0))...), 40+8*8, api.ErrHead6)
	}
}

// P5.2, P5.5: bits that say 0, each alone and all, are read as 0; all others are told.
func TestBitsThatSayNought(t *testing.T) {
	for _, heads := range [][]byte{nil, {0}, {60, 43}} {
		v := framed(withHeads(heads...), 0x1555)
		b := plainBytes(v)
		at := plainAhead(v) - 8
		nought := []byte{0, 0xff, 0, 0x06, 0, 0, 0, 0}
		for bit := range 64 {
			c := bytes.Clone(b)
			mask := byte(0x80 >> (bit % 8))
			c[at+bit/8] ^= mask
			free := nought[bit/8]&mask != 0
			w, place, e := ipv6.Parse(c)
			if like(v, w) != free || place != 0 || e != api.OK {
				t.Errorf("bit %d: %+v, %d, %d", bit, w, place, e)
			}
			x, place, e := ipv6.Part(c)
			if !like(w, x) || place != 0 || e != api.OK {
				t.Errorf("bit %d: Part: %+v, %d, %d", bit, x, place, e)
			}
			if again, _ := ipv6.Write(w); bytes.Equal(again, c) == free || free && !bytes.Equal(again, b) {
				t.Errorf("bit %d: written again % x", bit, again)
			}
			testRead(t, c)
		}
		for i, n := range nought {
			b[at+i] |= n
		}
		if w, place, e := ipv6.Parse(b); !like(v, w) || place != 0 || e != api.OK {
			t.Errorf("all bits: %+v, %d, %d", w, place, e)
		}
	}
}

// P5.2, P5.3: each bit of datagrams turned.
func TestTurnedBits(t *testing.T) {
	r := dice()
	for range 100 {
		b := plainBytes(someV6(r))
		for bit := range 8 * len(b) {
			c := bytes.Clone(b)
			c[bit/8] ^= 0x80 >> (bit % 8)
			testRead(t, c)
		}
	}
}

// P5.3, P5.6: a datagram's bytes of which some of the Body are cut off.
func TestCutOff(t *testing.T) {
	r := dice()
	for range 2000 {
		v := someV6(r)
		b := plainBytes(v)
		for cut := range len(v.Body) + 1 {
			want := v
			want.Body = v.Body[:len(v.Body)-cut]
			if w, at, e := ipv6.Part(b[:len(b)-cut]); !like(w, want) || at != 0 || e != api.OK {
				t.Fatalf("% x less %d: %+v, %d, %d", b, cut, w, at, e)
			}
			w, at, e := ipv6.Parse(b[:len(b)-cut])
			if cut > 0 && (!zero(w) || at != 4 || e != api.ErrLength6) {
				t.Fatalf("% x less %d: Parse: %+v, %d, %d", b, cut, w, at, e)
			}
		}
	}
	long := framed(withHeads(0, 60), 8191)
	long.Body = someBytes(r, api.MaxPacket-24)
	b := plainBytes(long)
	for _, n := range []int{0, 1, 548, 1280, len(long.Body) - 1, len(long.Body)} {
		want := long
		want.Body = long.Body[:n]
		if w, at, e := ipv6.Part(b[:64+n]); !like(w, want) || at != 0 || e != api.OK {
			t.Errorf("%d of a long Body: %d, %d, %d", n, len(w.Body), at, e)
		}
	}
}

// P5.2: the chapter's example.
func TestParseExample(t *testing.T) {
	b := append([]byte{0x60, 0, 0, 0, 0, 0, 0x3b, 0x40}, make([]byte, 32)...)
	b[39] = 1
	want := api.V6{Hop: 64, Proto: 59, Dst: api.Addr6{15: 1}}
	if v, at, e := ipv6.Parse(b); !like(v, want) || at != 0 || e != api.OK {
		t.Errorf("%+v, %d, %d", v, at, e)
	}
	testFault(t, "39 bytes", b[:39], 0, api.ErrShort6)
}

// P5.2: ProtoNone ends the row, and what stands behind it is the Body.
func TestNoneWithBody(t *testing.T) {
	for _, b := range [][]byte{made(59, 1, 2, 3), made(60, append(head(59, 0), 1, 2, 3)...), made(44, append(head(59, 0), 1, 2, 3)...)} {
		v, at, e := ipv6.Parse(b)
		if v.Proto != 59 || !bytes.Equal(v.Body, []byte{1, 2, 3}) || at != 0 || e != api.OK {
			t.Errorf("%+v, %d, %d", v, at, e)
		}
	}
}

// P5.2: each next header of the front.
func TestNextHeaders(t *testing.T) {
	for next := range 256 {
		k := byte(next)
		testFault(t, "a next header", made(k, head(17, 0)...), 0, api.OK)
		testRead(t, made(k))
		testRead(t, made(60, row(head(k, 0), head(17, 1))...))
		testRead(t, made(44, row(head(k, 0), head(17, 1))...))
		testRead(t, made(0, row(head(43, 1), head(k, 0), head(60, 0), head(6, 0))...))
	}
}

// random is bytes most of which look like a datagram with many headers.
func random(r *rand.Rand) []byte {
	b := someBytes(r, r.IntN(200))
	for i := range b {
		if r.IntN(3) > 0 {
			b[i] = []byte{0, 0, 43, 44, 60, 60, 1, 17}[r.IntN(8)]
		}
	}
	if len(b) >= 40 && r.IntN(8) > 0 {
		b[0] = 0x60 | b[0]&0xf
		binary.BigEndian.PutUint16(b[4:], uint16(len(b)-40+r.IntN(40)/13-1))
	}
	return b
}

// P5.2, P5.3, P5.5: random bytes.
func TestRandomBytes(t *testing.T) {
	r := dice()
	good := 0
	for range 60000 {
		b := random(r)
		testRead(t, b)
		v, _, e := ipv6.Parse(b)
		if e != api.OK {
			continue
		}
		good++
		w, e := ipv6.Write(v)
		if e != api.OK || len(w) != len(b) {
			t.Fatalf("% x: written again % x, %d", b, w, e)
		}
		if v.Frag {
			at := plainAhead(v) - 8
			b[at+1], b[at+3] = 0, b[at+3]&0xf9
		}
		if !bytes.Equal(w, b) {
			t.Fatalf("% x: written again % x", b, w)
		}
	}
	if good < 1000 {
		t.Errorf("only %d of them are datagrams", good)
	}
	for range 5000 {
		testRead(t, someBytes(r, r.IntN(100)))
	}
}

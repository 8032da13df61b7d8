package tofour_test

import (
	"bytes"
	"testing"

	"ferryman/api"
)

// P18.2: bodies of ICMP of each length around a message's, with a right checksum.
func TestShortMessages(t *testing.T) {
	for n := range 14 {
		b := append([]byte{128}, bytes.Repeat([]byte{0x5a}, 13)...)[:n]
		if n >= 4 {
			b = rightBody(58, ends6, b)
		}
		for _, v := range kinds(datagram(58, b)) {
			if v.More || v.Off > 0 {
				wantNoPacket(t, v, 174)
			} else if n < 8 {
				wantNoPacket(t, v, 70)
			} else if w, e := holdPacket(t, v, outer, inner); e != api.OK || len(w.Body) != n || w.Proto != 1 {
				t.Errorf("%s: %s, %d", show6(v), show4(w), e)
			}
		}
	}
}

// P18.2: a message whose checksum is wrong, by each bit of it and of its ends, is refused; a right one of 65535 in place of 0 is not.
func TestMessageSum(t *testing.T) {
	right := message(128, 0, 0x00010002, []byte("abcdef"))
	for i := range 8 * len(right.Body) {
		wrong := right
		wrong.Body = bytes.Clone(right.Body)
		wrong.Body[i/8] ^= 1 << (i % 8)
		wantNoPacket(t, wrong, 71)
	}
	for i := range 128 {
		a, b := right, right
		a.Src[i/8] ^= 1 << (i % 8)
		b.Dst[i/8] ^= 1 << (i % 8)
		wantNoPacket(t, a, 71)
		wantNoPacket(t, b, 71)
	}
	rest := number(message(128, 0, 0, nil).Body[2:4])
	v := message(128, 0, uint32(rest), nil)
	if number(v.Body[2:4]) != 0 {
		t.Fatalf("%x", v.Body)
	}
	holdPacket(t, v, outer, inner)
	v.Body = setNumber(v.Body, 2, 65535)
	if w, e := holdPacket(t, v, outer, inner); e != api.OK || !bytes.Equal(w.Body[4:], v.Body[4:]) {
		t.Errorf("%s, %d", show4(w), e)
	}
}

// P18.2: echoes of each code, there and back.
func TestEchoes(t *testing.T) {
	for code := range 256 {
		for kind, want := range map[byte]byte{128: 8, 129: 0} {
			v := message(kind, byte(code), 0xdeadbeef, []byte("odd"))
			for _, v := range []api.V6{v, whole(v)} {
				w, e := holdPacket(t, v, outer, inner)
				if e != api.OK || w.Body[0] != want || int(w.Body[1]) != code || !bytes.Equal(w.Body[4:], v.Body[4:]) || plainSum(w.Body) != 65535 {
					t.Errorf("%s: %s, %d", show6(v), show4(w), e)
				}
			}
		}
	}
}

// P18.2: an error goes between outer's ends, and the packet in it has inner for its ends.
func TestErrors(t *testing.T) {
	about := datagram(17, rightBody(17, ends6, []byte("\x13\x88\x00\x35????data")))
	v := message(1, 4, 0, bytesOf(about, 0))
	w, e := holdPacket(t, v, outer, inner)
	if e != api.OK || w.Src != outer.Src || w.Dst != outer.Dst || w.Proto != 1 || len(w.Body) != 8+20+12 {
		t.Fatalf("%s, %d", show4(w), e)
	}
	if w.Body[0] != 3 || w.Body[1] != 3 || number(w.Body[4:8]) != 0 {
		t.Errorf("%s", show4(w))
	}
	inside := w.Body[8:]
	if !bytes.Equal(inside[12:16], inner.Src[:]) || !bytes.Equal(inside[16:20], inner.Dst[:]) {
		t.Errorf("%x", inside)
	}
	if plainSum(w.Body) != 65535 || plainSum(inside[:20]) != 65535 {
		t.Errorf("the checksums of %s", show4(w))
	}
	if plainSum(append(pseudo4(inner, 17, 12), inside[20:]...)) != 65535 {
		t.Errorf("the checksum of %x", inside)
	}
}

// P18.2, P18.3: an error of a packet that is no packet, or goes not to the other side, is refused; so is a type that no row has.
func TestErrorsRefused(t *testing.T) {
	small := bytesOf(datagram(17, make([]byte, 8)), 0)
	for _, c := range []struct {
		v api.V6
		e api.Errno
	}{
		{message(5, 0, 0, small), 175},
		{message(0, 0, 0, small), 175},
		{message(135, 0, 0, nil), 175},
		{message(1, 5, 0, small), 175},
		{message(2, 1, 1280, small), 175},
		{message(4, 2, 0, small), 175},
		{message(4, 0, 2, small), 175},
		{message(4, 0, 0x100, small), 175},
		{message(1, 0, 0, nil), 176},
		{message(2, 0, 1400, small[:39]), 176},
		{message(3, 0, 0, bytesOf(message(1, 0, 0, small), 0)), 176},
		{message(3, 0, 0, bytesOf(withHeads(datagram(17, nil), head(43, 1, 1)), 0)), 170},
		{message(3, 0, 0, bytesOf(datagram(1, nil), 0)), 171},
		{message(4, 1, 0, bytesOf(whole(datagram(0, nil)), 0)), 171},
	} {
		wantNoPacket(t, c.v, c.e)
		wantNoPacket(t, whole(c.v), c.e)
		for _, v := range kindsOfFragment(c.v) {
			wantNoPacket(t, v, 174)
		}
		c.v.Body = setNumber(c.v.Body, 2, number(c.v.Body[2:4])^1)
		wantNoPacket(t, c.v, 71)
		c.v.Body = c.v.Body[:7]
		wantNoPacket(t, c.v, 70)
		c.v.Heads = []api.Head{head(43, 1, 1)}
		wantNoPacket(t, c.v, 170)
	}
}

// P18.2, P18.3: of an error as long as may be 548 bytes of the packet are left.
func TestLongError(t *testing.T) {
	for _, n := range []int{527, 528, 529, 1000, 1232, 65487} {
		v := message(1, 1, 0, bytesOf(datagram(47, someBytes(dice(), n)), 0))
		if w, e := holdPacket(t, v, outer, inner); e != api.OK || len(w.Body) != 8+min(n+20, 548) {
			t.Errorf("%d bytes: %s, %d", n, show4(w), e)
		}
	}
	v := message(1, 1, 0, bytesOf(datagram(47, make([]byte, 65488)), 0))
	wantNoPacket(t, v, api.ErrLong)
}

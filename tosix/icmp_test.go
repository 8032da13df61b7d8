package tosix_test

import (
	"bytes"
	"testing"

	"ferryman/api"
)

// P17.2: bodies of ICMP of each length around a message's, with a right checksum.
func TestShortMessages(t *testing.T) {
	for n := range 14 {
		b := append([]byte{8}, bytes.Repeat([]byte{0x5a}, 13)...)[:n]
		if n >= 4 {
			b = rightBody(1, ends4, b)
		}
		v := datagram(1, b)
		if n < 8 {
			wantNoPacket(t, v, 70)
		} else if w, e := holdPacket(t, v, outer, inner); e != api.OK || len(w.Body) != n || w.Proto != 58 {
			t.Errorf("%s: %s, %d", show4(v), show6(w), e)
		}
		for _, v := range kindsOfFragment(v) {
			wantNoPacket(t, v, 174)
		}
	}
}

// P17.2: a message whose checksum is wrong, by each bit, is refused, and a right one whose checksum is 65535 in place of 0 is not.
func TestMessageSum(t *testing.T) {
	right := message(8, 0, 0x00010002, []byte("abcdef"))
	for i := range 8 * len(right.Body) {
		wrong := right
		wrong.Body = bytes.Clone(right.Body)
		wrong.Body[i/8] ^= 1 << (i % 8)
		wantNoPacket(t, wrong, 71)
	}
	v := message(8, 0, 0xf7ff0000, nil)
	if number(v.Body[2:4]) != 0 {
		t.Fatalf("%x", v.Body)
	}
	holdPacket(t, v, outer, inner)
	v.Body = setNumber(v.Body, 2, 65535)
	if w, e := holdPacket(t, v, outer, inner); e != api.OK || !bytes.Equal(w.Body[4:], v.Body[4:]) {
		t.Errorf("%s, %d", show6(w), e)
	}
}

// P17.2: echoes of each code, there and back.
func TestEchoes(t *testing.T) {
	for code := range 256 {
		for kind, want := range map[byte]byte{8: 128, 0: 129} {
			v := message(kind, byte(code), 0xdeadbeef, []byte("odd"))
			w, e := holdPacket(t, v, outer, inner)
			if e != api.OK || w.Body[0] != want || int(w.Body[1]) != code || !bytes.Equal(w.Body[4:], v.Body[4:]) {
				t.Errorf("%s: %s, %d", show4(v), show6(w), e)
			}
		}
	}
}

// P17.2: an error: its checksum tells of outer, and the packet in it has inner for its ends.
func TestErrors(t *testing.T) {
	about := datagram(17, rightBody(17, ends4, []byte("\x13\x88\x00\x35????data")))
	v := message(3, 3, 0, bytesOf(about, 0))
	w, e := holdPacket(t, v, outer, inner)
	if e != api.OK || w.Src != outer.Src || w.Dst != outer.Dst || w.Proto != 58 || len(w.Body) != 8+40+12 {
		t.Fatalf("%s, %d", show6(w), e)
	}
	if w.Body[0] != 1 || w.Body[1] != 4 || number(w.Body[4:8]) != 0 {
		t.Errorf("%s", show6(w))
	}
	inside := w.Body[8:]
	if !bytes.Equal(inside[8:24], inner.Src[:]) || !bytes.Equal(inside[24:40], inner.Dst[:]) {
		t.Errorf("%x", inside)
	}
	if plainSum(append(pseudo6(outer, 58, len(w.Body)), w.Body...)) != 65535 {
		t.Errorf("the checksum of %s", show6(w))
	}
	if plainSum(append(pseudo6(inner, 17, 12), inside[40:]...)) != 65535 {
		t.Errorf("the checksum of %x", inside)
	}
}

// P17.2, P17.3: an error of a packet that is no packet, or goes not to the other side, is refused; so is a type that no row has.
func TestErrorsRefused(t *testing.T) {
	good := bytesOf(datagram(17, make([]byte, 8)), 0)
	for _, c := range []struct {
		v api.V4
		e api.Errno
	}{
		{message(5, 0, 0, good), 175},
		{message(13, 0, 0, nil), 175},
		{message(3, 14, 0, good), 175},
		{message(12, 1, 0, good), 175},
		{message(12, 0, 4<<24, good), 175},
		{message(3, 0, 0, nil), 176},
		{message(3, 4, 1400, good[:19]), 176},
		{message(11, 0, 0, bytesOf(message(3, 0, 0, good), 0)), 176},
		{message(11, 0, 0, bytesOf(datagram(58, nil), 0)), 171},
		{message(12, 0, 0, bytesOf(datagram(0, nil), 0)), 171},
	} {
		wantNoPacket(t, c.v, c.e)
		for _, v := range kindsOfFragment(c.v) {
			wantNoPacket(t, v, 174)
		}
		c.v.Body = setNumber(c.v.Body, 2, number(c.v.Body[2:4])^1)
		wantNoPacket(t, c.v, 71)
		c.v.Body = c.v.Body[:7]
		wantNoPacket(t, c.v, 70)
		c.v.Options = []byte{131, 3, 3, 0}
		wantNoPacket(t, c.v, 170)
	}
}

// P17.2, P17.3: of an error as long as may be 1232 bytes of the packet are left.
func TestLongError(t *testing.T) {
	for _, n := range []int{1183, 1184, 1185, 1191, 1192, 1193, 1300, 65479} {
		v := message(3, 1, 0, bytesOf(datagram(47, someBytes(dice(), n)), 0))
		if w, e := holdPacket(t, v, outer, inner); e != api.OK || len(w.Body) != 8+min(n+40, 1232) {
			t.Errorf("%d bytes: %s, %d", n, show6(w), e)
		}
		frag := fragment(datagram(47, someBytes(dice(), n)), 9, true)
		v = message(3, 1, 0, bytesOf(frag, 0))
		if w, e := holdPacket(t, v, outer, inner); e != api.OK || len(w.Body) != 8+min(n+48, 1232) {
			t.Errorf("%d bytes of a fragment: %s, %d", n, show6(w), e)
		}
	}
}

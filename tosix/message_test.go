package tosix_test

import (
	"bytes"
	"testing"

	"ferryman/api"
)

// small is a packet of which an error may tell: 28 bytes, 48 over IPv6.
var small = bytesOf(datagram(17, []byte{0, 1, 0, 2, 0, 8, 0, 0}), 0)

// P17.3: the table of types, row by row, with the codes that it names and those beside them.
func TestTable(t *testing.T) {
	const none = 255
	for _, c := range []struct {
		kind, code byte
		rest       uint32
		kind6      byte // none: ErrIcmp
		code6      byte
		rest6      uint32
	}{
		{8, 0, 0x12345678, 128, 0, 0x12345678},
		{8, 1, 5, 128, 1, 5},
		{8, 255, 5, 128, 255, 5},
		{0, 0, 0x12345678, 129, 0, 0x12345678},
		{0, 1, 5, 129, 1, 5},
		{0, 255, 5, 129, 255, 5},
		{3, 0, 7, 1, 0, 0},
		{3, 1, 7, 1, 0, 0},
		{3, 2, 7, 4, 1, 6},
		{3, 3, 7, 1, 4, 0},
		{3, 4, 1400, 2, 0, 1420},
		{3, 4, 0, 2, 0, 1280},
		{3, 4, 0xffff0000, 2, 0, 1280},
		{3, 4, 0x00011400, 2, 0, 0x1414},
		{3, 4, 0xffffffff, 2, 0, 65555},
		{3, 4, 1259, 2, 0, 1280},
		{3, 4, 1261, 2, 0, 1281},
		{3, 5, 7, 1, 0, 0},
		{3, 6, 7, 1, 0, 0},
		{3, 7, 7, 1, 0, 0},
		{3, 8, 7, 1, 0, 0},
		{3, 9, 7, 1, 1, 0},
		{3, 10, 7, 1, 1, 0},
		{3, 11, 7, 1, 0, 0},
		{3, 12, 7, 1, 0, 0},
		{3, 13, 7, 1, 1, 0},
		{3, 14, 7, none, 0, 0},
		{3, 15, 7, 1, 1, 0},
		{3, 16, 7, none, 0, 0},
		{3, 255, 7, none, 0, 0},
		{11, 0, 7, 3, 0, 0},
		{11, 1, 7, 3, 1, 0},
		{11, 2, 7, 3, 2, 0},
		{11, 255, 7, 3, 255, 0},
		{12, 0, 0x09ffffff, 4, 0, 6},
		{12, 0, 0x10000000, 4, 0, 24},
		{12, 0, 0x14000000, none, 0, 0},
		{12, 0, 0x04000000, none, 0, 0},
		{12, 1, 0x09000000, none, 0, 0},
		{12, 2, 0x0c000000, 4, 0, 8},
		{12, 2, 0xff000000, none, 0, 0},
		{12, 3, 0x09000000, none, 0, 0},
		{12, 255, 0, none, 0, 0},
		{1, 0, 0, none, 0, 0},
		{2, 0, 0, none, 0, 0},
		{4, 0, 0, none, 0, 0},
		{5, 0, 0, none, 0, 0},
		{7, 0, 0, none, 0, 0},
		{9, 0, 0, none, 0, 0},
		{10, 0, 0, none, 0, 0},
		{13, 0, 0, none, 0, 0},
		{128, 0, 0, none, 0, 0},
		{129, 0, 0, none, 0, 0},
		{255, 0, 0, none, 0, 0},
	} {
		m, want, wantE := api.Icmp{Type: c.kind, Code: c.code, Rest: c.rest, Body: small}, api.Icmp{}, api.ErrIcmp
		if c.kind6 != none {
			want, wantE = api.Icmp{Type: c.kind6, Code: c.code6, Rest: c.rest6, Body: small}, api.OK
			if c.kind != 8 && c.kind != 0 {
				b, _ := plainInside(small, inner)
				want.Body = b
			}
		}
		if w, e := holdMessage(t, m, inner); e != wantE || !likeMessage(w, want) {
			t.Errorf("%s: %s, %d; want %s, %d", showMessage(m), showMessage(w), e, showMessage(want), wantE)
		}
	}
}

// P17.3: each type with each code, and Rests in which each byte is another.
func TestEachType(t *testing.T) {
	for kind := range 256 {
		for code := range 256 {
			for _, rest := range []uint32{0, 0x04050607, 0x09000500, 0x13ff0001, 0x14001000, 0xffffffff} {
				holdMessage(t, api.Icmp{Type: byte(kind), Code: byte(code), Rest: rest, Body: small}, inner)
			}
		}
	}
	for at := range 256 {
		for code := range byte(4) {
			holdMessage(t, api.Icmp{Type: 12, Code: code, Rest: uint32(at)<<24 | 0x010203, Body: small}, inner)
		}
	}
	for mtu := range 65536 {
		m := api.Icmp{Type: 3, Code: 4, Rest: 0xabcd0000 | uint32(mtu), Body: small}
		if w, e := holdMessage(t, m, inner); e != api.OK || int(w.Rest) != plainMTU(mtu) {
			t.Fatalf("%s: %s, %d", showMessage(m), showMessage(w), e)
		}
	}
}

// P17.3: the chapter's example.
func TestExampleMessage(t *testing.T) {
	w, e := holdMessage(t, api.Icmp{Type: 3, Code: 4, Rest: 1400, Body: small}, inner)
	if e != api.OK || w.Type != 2 || w.Code != 0 || w.Rest != 1420 || len(w.Body) != 48 {
		t.Errorf("%s, %d", showMessage(w), e)
	}
}

// P17.3: Bodies of 1232 bytes and one more, over IPv6 and over IPv4.
func TestMost(t *testing.T) {
	r := dice()
	for _, n := range []int{0, 8, 1183, 1184, 1185, 1191, 1192, 1193, 1203, 1204, 1205, 1211, 1212, 1213, 1231, 1232, 1233, 3000, 65507} {
		b := bytesOf(datagram(47, someBytes(r, n)), 0)
		for _, kind := range []byte{3, 11, 12} {
			m := api.Icmp{Type: kind, Body: b}
			want, _ := plainInside(b, inner)
			if w, e := holdMessage(t, m, inner); e != api.OK || !bytes.Equal(w.Body, want[:min(n+40, 1232)]) {
				t.Errorf("%s: %s, %d", showMessage(m), showMessage(w), e)
			}
		}
		for _, kind := range []byte{0, 8} {
			m := api.Icmp{Type: kind, Body: b}
			if w, e := holdMessage(t, m, inner); e != api.OK || !bytes.Equal(w.Body, b) {
				t.Errorf("%s: %s, %d", showMessage(m), showMessage(w), e)
			}
		}
	}
}

// P17.3: Bodies of MaxPacket less 8 bytes and one more; ErrIcmp is told ahead of ErrLong, and ErrLong ahead of what Inside tells.
func TestLongMessage(t *testing.T) {
	for _, n := range []int{65526, 65527, 65528, 65529, 65535, 65536, 1 << 20} {
		packet := bytesOf(datagram(47, make([]byte, min(n, 65535)-20)), 0)
		packet = append(packet, make([]byte, n-len(packet))...)
		for _, c := range []struct {
			kind, code byte
			body       []byte
			e          api.Errno // of a Body that is not too long
		}{
			{8, 0, packet, api.OK},
			{0, 3, packet, api.OK},
			{3, 0, packet, api.OK},
			{11, 0, packet, api.OK},
			{12, 0, packet, api.OK},
			{3, 0, make([]byte, n), api.ErrInner},
			{12, 2, setNumber(packet, 8, 64*256+43), api.ErrNoSide},
			{3, 14, packet, api.ErrIcmp},
			{12, 1, packet, api.ErrIcmp},
			{5, 0, make([]byte, n), api.ErrIcmp},
		} {
			want := c.e
			if n > 65527 && want != api.ErrIcmp {
				want = api.ErrLong
			}
			if w, e := holdMessage(t, api.Icmp{Type: c.kind, Code: c.code, Body: c.body}, inner); e != want {
				t.Errorf("%d/%d, %d bytes: %s, %d; want %d", c.kind, c.code, n, showMessage(w), e, want)
			}
		}
		holdMessage(t, api.Icmp{Type: 12, Rest: 0x04000000, Body: packet}, inner)
	}
}

// P17.3: Inside's error, of each type that tells of a packet; an echo's Body may be anything.
func TestMessageInside(t *testing.T) {
	for _, c := range []struct {
		body []byte
		e    api.Errno
	}{
		{nil, api.ErrInner},
		{[]byte{}, api.ErrInner},
		{small[:19], api.ErrInner},
		{small[:20], api.OK},
		{setNumber(small, 0, 0x5500), api.ErrInner},
		{bytesOf(message(3, 0, 0, small), 0), api.ErrInner},
		{bytesOf(message(8, 0, 0, small), 0), api.OK},
		{bytesOf(datagram(60, nil), 0), api.ErrNoSide},
	} {
		for _, kind := range []byte{0, 3, 8, 11, 12} {
			want := c.e
			if kind == 0 || kind == 8 {
				want = api.OK
			}
			m := api.Icmp{Type: kind, Body: c.body}
			if w, e := holdMessage(t, m, inner); e != want {
				t.Errorf("%s: %s, %d; want %d", showMessage(m), showMessage(w), e, want)
			}
		}
	}
}

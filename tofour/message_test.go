package tofour_test

import (
	"bytes"
	"testing"

	"ferryman/api"
)

// small is a packet of which an error may tell: 49 bytes, 29 over IPv4.
var small = bytesOf(datagram(17, rightBody(17, ends6, []byte{0, 1, 0, 2, 0, 9, 0, 0, 5})), 0)

// P18.3: the table of types, row by row, with the codes that it names and those beside them.
func TestTable(t *testing.T) {
	const none = 255
	for _, c := range []struct {
		kind, code byte
		rest       uint32
		kind4      byte // none: ErrIcmp
		code4      byte
		rest4      uint32
	}{
		{128, 0, 0x12345678, 8, 0, 0x12345678},
		{128, 1, 5, 8, 1, 5},
		{128, 255, 5, 8, 255, 5},
		{129, 0, 0x12345678, 0, 0, 0x12345678},
		{129, 1, 5, 0, 1, 5},
		{129, 255, 5, 0, 255, 5},
		{1, 0, 7, 3, 1, 0},
		{1, 1, 7, 3, 10, 0},
		{1, 2, 7, 3, 1, 0},
		{1, 3, 7, 3, 1, 0},
		{1, 4, 7, 3, 3, 0},
		{1, 5, 7, none, 0, 0},
		{1, 6, 7, none, 0, 0},
		{1, 255, 7, none, 0, 0},
		{2, 0, 1280, 3, 4, 1260},
		{2, 0, 0, 3, 4, 68},
		{2, 0, 87, 3, 4, 68},
		{2, 0, 88, 3, 4, 68},
		{2, 0, 89, 3, 4, 69},
		{2, 0, 65555, 3, 4, 65535},
		{2, 0, 65556, 3, 4, 65535},
		{2, 0, 0x00010000, 3, 4, 65516},
		{2, 0, 0xffffffff, 3, 4, 65535},
		{2, 1, 1280, none, 0, 0},
		{2, 255, 1280, none, 0, 0},
		{3, 0, 7, 11, 0, 0},
		{3, 1, 7, 11, 1, 0},
		{3, 2, 7, 11, 2, 0},
		{3, 4, 7, 11, 4, 0},
		{3, 255, 7, 11, 255, 0},
		{4, 0, 0, 12, 0, 0},
		{4, 0, 1, 12, 0, 0x01000000},
		{4, 0, 2, none, 0, 0},
		{4, 0, 5, 12, 0, 0x02000000},
		{4, 0, 6, 12, 0, 0x09000000},
		{4, 0, 7, 12, 0, 0x08000000},
		{4, 0, 8, 12, 0, 0x0c000000},
		{4, 0, 39, 12, 0, 0x10000000},
		{4, 0, 40, none, 0, 0},
		{4, 0, 256 + 7, none, 0, 0},
		{4, 0, 0x07000000, none, 0, 0},
		{4, 0, 0xffffffff, none, 0, 0},
		{4, 1, 6, 3, 2, 0},
		{4, 1, 2, 3, 2, 0},
		{4, 1, 0xffffffff, 3, 2, 0},
		{4, 2, 6, none, 0, 0},
		{4, 3, 6, none, 0, 0},
		{4, 255, 6, none, 0, 0},
		{0, 0, 0, none, 0, 0},
		{5, 0, 0, none, 0, 0},
		{8, 0, 0, none, 0, 0},
		{11, 0, 0, none, 0, 0},
		{12, 0, 0, none, 0, 0},
		{100, 0, 0, none, 0, 0},
		{127, 0, 0, none, 0, 0},
		{130, 0, 0, none, 0, 0},
		{133, 0, 0, none, 0, 0},
		{137, 0, 0, none, 0, 0},
		{255, 0, 0, none, 0, 0},
	} {
		m, want, wantE := api.Icmp{Type: c.kind, Code: c.code, Rest: c.rest, Body: small}, api.Icmp{}, api.ErrIcmp
		if c.kind4 != none {
			want, wantE = api.Icmp{Type: c.kind4, Code: c.code4, Rest: c.rest4, Body: small}, api.OK
			if c.kind < 128 {
				b, _ := plainInside(small, inner)
				want.Body = b
			}
		}
		if w, e := holdMessage(t, m, inner); e != wantE || !likeMessage(w, want) {
			t.Errorf("%s: %s, %d; want %s, %d", showMessage(m), showMessage(w), e, showMessage(want), wantE)
		}
	}
}

// P18.3: each type with each code, and Rests in which each byte is another.
func TestEachType(t *testing.T) {
	for kind := range 256 {
		for code := range 256 {
			for _, rest := range []uint32{0, 7, 0x04050607, 0x00000500, 0x00010000, 0xffffffff} {
				holdMessage(t, api.Icmp{Type: byte(kind), Code: byte(code), Rest: rest, Body: small}, inner)
			}
		}
	}
	for at := range uint32(600) {
		for code := range byte(4) {
			holdMessage(t, api.Icmp{Type: 4, Code: code, Rest: at, Body: small}, inner)
		}
	}
	for mtu := range uint32(70000) {
		m := api.Icmp{Type: 2, Rest: mtu, Body: small}
		if w, e := holdMessage(t, m, inner); e != api.OK || int(w.Rest) != plainMTU(int(mtu)) {
			t.Fatalf("%s: %s, %d", showMessage(m), showMessage(w), e)
		}
	}
}

// P18.3: the chapter's example.
func TestExampleMessage(t *testing.T) {
	w, e := holdMessage(t, api.Icmp{Type: 2, Rest: 1280, Body: small}, inner)
	if e != api.OK || w.Type != 3 || w.Code != 4 || w.Rest != 1260 || len(w.Body) != 29 {
		t.Errorf("%s, %d", showMessage(w), e)
	}
}

// P18.3: Bodies of 548 bytes and one more, over IPv4 and over IPv6.
func TestMost(t *testing.T) {
	r := dice()
	for _, n := range []int{0, 1, 8, 507, 508, 509, 527, 528, 529, 547, 548, 549, 1232, 3000, 65487} {
		v := datagram(47, someBytes(r, n))
		b := bytesOf(v, 0)
		for kind := byte(1); kind < 5; kind++ {
			m := api.Icmp{Type: kind, Body: b}
			want, _ := plainInside(b, inner)
			if w, e := holdMessage(t, m, inner); e != api.OK || !bytes.Equal(w.Body, want[:min(n+20, 548)]) {
				t.Errorf("%s: %s, %d", showMessage(m), showMessage(w), e)
			}
		}
		for _, kind := range []byte{128, 129} {
			m := api.Icmp{Type: kind, Body: b}
			if w, e := holdMessage(t, m, inner); e != api.OK || !bytes.Equal(w.Body, b) {
				t.Errorf("%s: %s, %d", showMessage(m), showMessage(w), e)
			}
		}
		// With heads, which are left out.
		b = bytesOf(withHeads(fragment(v, 3, true), head(0, 2, 1), head(60, 1, 1)), 0)
		if w, e := holdMessage(t, api.Icmp{Type: 3, Body: b}, inner); len(b) <= 65527 && (e != api.OK || len(w.Body) != min(n+20, 548)) {
			t.Errorf("%s: %s, %d", cut(b), showMessage(w), e)
		}
	}
}

// P18.3: Bodies of MaxPacket less 8 bytes and one more; ErrIcmp is told ahead of ErrLong, and ErrLong ahead of what Inside tells.
func TestLongMessage(t *testing.T) {
	for _, n := range []int{65526, 65527, 65528, 65529, 65535, 65536, 65575, 65576, 1 << 20} {
		size := min(n, 65575)
		packet := bytesOf(datagram(47, make([]byte, size-40)), 0)
		packet = append(packet, make([]byte, n-size)...)
		routed := bytesOf(withHeads(datagram(47, make([]byte, size-48)), head(43, 1, 1)), 0)
		routed = append(routed, make([]byte, n-size)...)
		for _, c := range []struct {
			kind, code byte
			rest       uint32
			body       []byte
			e          api.Errno // of a Body that is not too long
		}{
			{128, 0, 5, packet, api.OK},
			{129, 3, 5, packet, api.OK},
			{1, 0, 5, packet, api.OK},
			{2, 0, 5, packet, api.OK},
			{3, 0, 5, packet, api.OK},
			{4, 0, 5, packet, api.OK},
			{1, 0, 5, make([]byte, n), api.ErrInner},
			{4, 1, 5, setNumber(packet, 6, 256+7), api.ErrNoSide},
			{3, 1, 5, routed, api.ErrRoute},
			{1, 5, 5, packet, api.ErrIcmp},
			{2, 1, 5, packet, api.ErrIcmp},
			{4, 0, 2, packet, api.ErrIcmp},
			{4, 2, 5, packet, api.ErrIcmp},
			{5, 0, 5, make([]byte, n), api.ErrIcmp},
		} {
			want := c.e
			if n > 65527 && want != api.ErrIcmp {
				want = api.ErrLong
			}
			if w, e := holdMessage(t, api.Icmp{Type: c.kind, Code: c.code, Rest: c.rest, Body: c.body}, inner); e != want {
				t.Errorf("%d/%d, %d bytes: %s, %d; want %d", c.kind, c.code, n, showMessage(w), e, want)
			}
		}
	}
}

// P18.3: Inside's error, of each type that tells of a packet; an echo's Body may be anything.
func TestMessageInside(t *testing.T) {
	for _, c := range []struct {
		body []byte
		e    api.Errno
	}{
		{nil, api.ErrInner},
		{[]byte{}, api.ErrInner},
		{small[:39], api.ErrInner},
		{small[:40], api.OK},
		{setNumber(small, 0, 0x4500), api.ErrInner},
		{bytesOf(message(1, 0, 0, small), 0), api.ErrInner},
		{bytesOf(message(133, 0, 0, small), 0), api.ErrInner},
		{bytesOf(message(128, 0, 0, small), 0), api.OK},
		{bytesOf(withHeads(datagram(6, nil), head(43, 2, 9)), 0), api.ErrRoute},
		{bytesOf(datagram(1, nil), 0), api.ErrNoSide},
	} {
		for _, kind := range []byte{1, 2, 3, 4, 128, 129} {
			want := c.e
			if kind > 127 {
				want = api.OK
			}
			m := api.Icmp{Type: kind, Body: c.body}
			if w, e := holdMessage(t, m, inner); e != want {
				t.Errorf("%s: %s, %d; want %d", showMessage(m), showMessage(w), e, want)
			}
		}
	}
}

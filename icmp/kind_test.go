package icmp_test

import (
	"bytes"
	"math"
	"testing"

	"ferryman/api"
	"ferryman/icmp"
)

// kindOf is the chapter's table of kinds, written apart from the program.
func kindOf(n network, typ, code int) api.IcmpKind {
	if !n.six && typ == 3 && code == 4 {
		return 4
	}
	four := map[int]api.IcmpKind{8: 1, 0: 2, 3: 3, 11: 5, 12: 6}
	six := map[int]api.IcmpKind{128: 1, 129: 2, 1: 3, 2: 4, 3: 5, 4: 6}
	if n.six {
		return six[typ]
	}
	return four[typ]
}

// P7.3: every Type with every Code; Rest and Body play no part.
func TestKinds(t *testing.T) {
	r := dice()
	for _, n := range networks(r) {
		for typ := range 256 {
			for code := range 256 {
				m := api.Icmp{Type: uint8(typ), Code: uint8(code)}
				want := kindOf(n, typ, code)
				if k := n.kind(m); k != want {
					t.Errorf("%s, Type %d, Code %d: %d, want %d", n.name, typ, code, k, want)
				}
				m.Rest, m.Body = r.Uint32(), someBytes(r, r.IntN(9))
				if k := n.kind(m); k != want {
					t.Errorf("%s, %+v: %d, want %d", n.name, m, k, want)
				}
			}
		}
	}
}

// P7.3: the kinds about which a slip is near.
func TestKindEdges(t *testing.T) {
	for _, c := range []struct {
		typ, code uint8
		four, six api.IcmpKind
	}{
		{0, 0, api.IcmpAnswer, api.IcmpOther},
		{0, 4, api.IcmpAnswer, api.IcmpOther},
		{1, 0, api.IcmpOther, api.IcmpUnreach},
		{1, 4, api.IcmpOther, api.IcmpUnreach},
		{2, 0, api.IcmpOther, api.IcmpBig},
		{2, 255, api.IcmpOther, api.IcmpBig},
		{3, 0, api.IcmpUnreach, api.IcmpTime},
		{3, 3, api.IcmpUnreach, api.IcmpTime},
		{3, 4, api.IcmpBig, api.IcmpTime},
		{3, 5, api.IcmpUnreach, api.IcmpTime},
		{4, 0, api.IcmpOther, api.IcmpParam},
		{5, 0, api.IcmpOther, api.IcmpOther},
		{8, 0, api.IcmpAsk, api.IcmpOther},
		{8, 4, api.IcmpAsk, api.IcmpOther},
		{11, 4, api.IcmpTime, api.IcmpOther},
		{12, 4, api.IcmpParam, api.IcmpOther},
		{127, 0, api.IcmpOther, api.IcmpOther},
		{128, 0, api.IcmpOther, api.IcmpAsk},
		{128, 255, api.IcmpOther, api.IcmpAsk},
		{129, 0, api.IcmpOther, api.IcmpAnswer},
		{130, 0, api.IcmpOther, api.IcmpOther},
		{136, 0, api.IcmpOther, api.IcmpOther},
		{255, 255, api.IcmpOther, api.IcmpOther},
	} {
		m := api.Icmp{Type: c.typ, Code: c.code}
		if four, six := icmp.Kind4(m), icmp.Kind6(m); four != c.four || six != c.six {
			t.Errorf("Type %d, Code %d: %d, %d; want %d, %d", c.typ, c.code, four, six, c.four, c.six)
		}
	}
}

// P7.3: identifiers of 0 and of 65535, and others; all else is kept.
func TestIdent(t *testing.T) {
	for _, c := range []struct {
		rest uint32
		id   uint16
		was  uint16
		want uint32
	}{
		{0x00010002, 7, 1, 0x00070002},
		{0, 0, 0, 0},
		{0, 65535, 0, 0xffff0000},
		{0xffffffff, 0, 65535, 0x0000ffff},
		{0xffffffff, 65535, 65535, 0xffffffff},
		{0x0000ffff, 0, 0, 0x0000ffff},
		{0x0000ffff, 65535, 0, 0xffffffff},
		{0xffff0000, 0, 65535, 0},
		{0xffff0000, 1, 65535, 0x00010000},
		{0x12345678, 0x9abc, 0x1234, 0x9abc5678},
		{0x80008000, 0x0100, 0x8000, 0x01008000},
	} {
		for _, m := range []api.Icmp{{}, {Type: 8, Body: []byte{}}, {Type: 129, Code: 5, Body: []byte{1, 2, 3}}, {Type: 3, Code: 4, Body: make([]byte, 70000)}} {
			m.Rest = c.rest
			if id := icmp.Ident(m); id != c.was {
				t.Errorf("of Rest %x: %x, want %x", c.rest, id, c.was)
			}
			want := m
			want.Rest = c.want
			if got := icmp.WithIdent(m, c.id); !like(got, want) || icmp.Ident(got) != c.id {
				t.Errorf("Rest %x with %x: Type %d, Code %d, Rest %x, %d of Body; want %x", c.rest, c.id, got.Type, got.Code, got.Rest, len(got.Body), c.want)
			}
		}
	}
}

// P7.3: each identifier; random messages.
func TestIdents(t *testing.T) {
	r := dice()
	for id := range 1 << 16 {
		m := someMessage(r)
		want := m
		want.Rest = m.Rest%65536 + uint32(id)*65536
		got := icmp.WithIdent(m, uint16(id))
		if !like(got, want) || int(icmp.Ident(got)) != id || uint32(icmp.Ident(m)) != m.Rest/65536 {
			t.Fatalf("%+v with %d: %+v", m, id, got)
		}
	}
}

// plainError is what the chapter says of an error about a packet, written apart from the program.
func plainError(n network, kind api.IcmpKind, code uint8, rest uint32, packet []byte) (api.Icmp, api.Errno) {
	types, most := map[api.IcmpKind]uint8{3: 3, 4: 3, 5: 11, 6: 12}, 548
	if n.six {
		types, most = map[api.IcmpKind]uint8{3: 1, 4: 2, 5: 3, 6: 4}, 1232
	}
	typ, is := types[kind]
	if !is || !n.six && kind == 3 && code == 4 {
		return api.Icmp{}, 72
	}
	if !n.six && kind == 4 {
		code = 4
	}
	if len(packet) > most {
		packet = packet[:most]
	}
	return api.Icmp{Type: typ, Code: code, Rest: rest, Body: packet}, 0
}

// testError holds an error about a packet against what the chapter says, and asks that it is of its kind and goes there and back.
func testError(t *testing.T, n network, kind api.IcmpKind, code uint8, rest uint32, packet []byte) {
	t.Helper()
	want, e := plainError(n, kind, code, rest, packet)
	got, f := n.fault(kind, code, rest, packet)
	if !like(got, want) || f != e || e != api.OK && !zero(got) {
		t.Fatalf("%s, kind %d, code %d, rest %x, %d bytes: Type %d, Code %d, Rest %x, %d of Body, %d; want Type %d, Code %d, %d", n.name, kind, code, rest, len(packet), got.Type, got.Code, got.Rest, len(got.Body), f, want.Type, want.Code, e)
	}
	if e != api.OK {
		return
	}
	if k := n.kind(got); k != kind {
		t.Fatalf("%s, kind %d, code %d: it is of kind %d", n.name, kind, code, k)
	}
	testWrite(t, n, got)
}

// P7.4: the chapter's example.
func TestErrorExample(t *testing.T) {
	m, e := icmp.Error4(api.IcmpBig, 0, 1280, bytes.Repeat([]byte{9}, 600))
	if want := (api.Icmp{Type: 3, Code: 4, Rest: 1280, Body: bytes.Repeat([]byte{9}, 548)}); !like(m, want) || e != api.OK {
		t.Errorf("%+v, %d", m, e)
	}
}

// P7.4 and rule 2: every kind with every code; numbers that are no kind.
func TestErrorKinds(t *testing.T) {
	far := []api.IcmpKind{math.MinInt, math.MinInt32, -256, -4, -3, -2, -1, 7, 8, 11, 12, 128, 129, 255, 256, 259, 260, 1<<16 + 4, 1<<32 + 3, math.MaxInt32, math.MaxInt}
	for _, n := range networks(dice()) {
		for code := range 256 {
			for kind := api.IcmpKind(-300); kind < 600; kind++ {
				testError(t, n, kind, uint8(code), 0x01020304, []byte{5, 6, 7})
			}
			for _, kind := range far {
				testError(t, n, kind, uint8(code), 9, []byte{5})
			}
		}
	}
}

// P7.4: code 4, with each kind over both networks.
func TestErrorCodeFour(t *testing.T) {
	for _, c := range []struct {
		kind      api.IcmpKind
		four, six api.Errno
	}{
		{api.IcmpOther, api.ErrNoError, api.ErrNoError},
		{api.IcmpAsk, api.ErrNoError, api.ErrNoError},
		{api.IcmpAnswer, api.ErrNoError, api.ErrNoError},
		{api.IcmpUnreach, api.ErrNoError, api.OK},
		{api.IcmpBig, api.OK, api.OK},
		{api.IcmpTime, api.OK, api.OK},
		{api.IcmpParam, api.OK, api.OK},
	} {
		four, e := icmp.Error4(c.kind, 4, 1, []byte{2})
		if e != c.four || e == api.OK && four.Code != 4 || e != api.OK && !zero(four) {
			t.Errorf("over IPv4, kind %d: %+v, %d", c.kind, four, e)
		}
		six, e := icmp.Error6(c.kind, 4, 1, []byte{2})
		if e != c.six || e == api.OK && six.Code != 4 || e != api.OK && !zero(six) {
			t.Errorf("over IPv6, kind %d: %+v, %d", c.kind, six, e)
		}
	}
}

// P7.4: how much of a packet is told; Rest 0 and the greatest.
func TestErrorPackets(t *testing.T) {
	r := dice()
	for _, n := range networks(r) {
		for kind := api.IcmpOther; kind <= api.IcmpParam; kind++ {
			for _, size := range []int{0, 1, 2, 7, 8, 546, 547, 548, 549, 550, 575, 576, 577, 1230, 1231, 1232, 1233, 1234, 1279, 1280, 1281, 65535, 65536, 1 << 17} {
				for _, rest := range []uint32{0, 1, 1280, 1<<16 - 1, 1 << 16, 1<<32 - 1} {
					testError(t, n, kind, uint8(r.Uint32()), rest, someBytes(r, size))
				}
			}
			for size := range 1400 {
				testError(t, n, kind, 1, r.Uint32(), someBytes(r, size))
			}
			testError(t, n, kind, 0, 0, nil)
			testError(t, n, kind, 0, 0, []byte{})
		}
	}
}

// P7.4: an error is not longer than 576 bytes with the header of IPv4, and 1280 with that of IPv6.
func TestErrorFits(t *testing.T) {
	packet := make([]byte, 65535)
	for kind := api.IcmpUnreach; kind <= api.IcmpParam; kind++ {
		four, _ := icmp.Error4(kind, 0, 0, packet)
		six, _ := icmp.Error6(kind, 0, 0, packet)
		b, e := icmp.Write4(four)
		c, f := icmp.Write6(api.Addr6{}, api.Addr6{}, six)
		if 20+len(b) != 576 || 40+len(c) != 1280 || e != api.OK || f != api.OK {
			t.Errorf("kind %d: %d, %d bytes; %d, %d", kind, len(b), len(c), e, f)
		}
	}
}

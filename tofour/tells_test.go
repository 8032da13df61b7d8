package tofour_test

import (
	"bytes"
	"testing"

	"ferryman/api"
)

// wantTells holds Tells against an answer, and against the plain way.
func wantTells(t *testing.T, v api.V6, ends api.Ends6, is bool, want api.Errno) {
	t.Helper()
	if got, gotIs, e := holdTells(t, v); got != ends || gotIs != is || e != want {
		t.Errorf("%s: %v, %t, %d; want %v, %t, %d", show6(v), got, gotIs, e, ends, is, want)
	}
}

var told = api.Ends6{Src: api.Addr6{0x20, 1, 0xd, 0xb8, 15: 9}, Dst: api.Addr6{0, 0x64, 0xff, 0x9b, 12: 198, 13: 51, 14: 100, 15: 7}}

// toldPacket is a packet between those ends.
func toldPacket() api.V6 {
	v := datagram(17, []byte("body"))
	v.Src, v.Dst = told.Src, told.Dst
	return v
}

// P18.5: each type with each code: those of errors tell, whether their code means something or not.
func TestTellsTypes(t *testing.T) {
	b := bytesOf(toldPacket(), 10)
	for kind := range 256 {
		for code := range 256 {
			v := message(byte(kind), byte(code), 0xff000000, b)
			if kind >= 1 && kind <= 4 {
				wantTells(t, v, told, true, api.OK)
			} else {
				wantTells(t, v, api.Ends6{}, false, api.OK)
			}
		}
	}
}

// P18.5: fragments tell of nothing, but a fragment header may say that there is none; nor does another protocol, or what is no message.
func TestTellsOthers(t *testing.T) {
	v := message(3, 0, 0, bytesOf(toldPacket(), 0))
	wantTells(t, v, told, true, api.OK)
	wantTells(t, whole(v), told, true, api.OK)
	for _, f := range kindsOfFragment(v) {
		wantTells(t, f, api.Ends6{}, false, api.OK)
	}
	for proto := range 256 {
		o := v
		if o.Proto = byte(proto); proto == 58 {
			continue
		}
		if isOne(o.Proto, 0, 43, 44, 60) {
			wantTells(t, o, api.Ends6{}, false, api.ErrV6)
		} else {
			wantTells(t, o, api.Ends6{}, false, api.OK)
		}
		wantTells(t, whole(o), api.Ends6{}, false, api.OK)
	}
	for i := range 8 * len(v.Body) {
		o := v
		o.Body = bytes.Clone(v.Body)
		o.Body[i/8] ^= 1 << (i % 8)
		wantTells(t, o, api.Ends6{}, false, api.OK)
	}
	for i := range 128 {
		a, b := v, v
		a.Src[i/8] ^= 1 << (i % 8)
		b.Dst[i/8] ^= 1 << (i % 8)
		wantTells(t, a, api.Ends6{}, false, api.OK)
		wantTells(t, b, api.Ends6{}, false, api.OK)
	}
	// Heads are not asked for.
	v.Class, v.Label, v.Hop = 0, 0, 0
	wantTells(t, withHeads(v, head(0, 1, 3), head(43, 2, 5)), told, true, api.OK)
}

// P18.5: messages and packets in them that are cut off at each place.
func TestTellsCutOff(t *testing.T) {
	for _, heads := range [][]api.Head{nil, {head(0, 1, 1)}, {head(60, 2, 1), head(43, 1, 7)}} {
		for _, v := range kinds(withHeads(toldPacket(), heads...)) {
			b := bytesOf(v, 3)
			for n := range len(b) + 6 {
				ends, is := told, true
				if n < 40+ahead(v) || n > len(b)+3 {
					ends, is = api.Ends6{}, false
				}
				wantTells(t, message(1, 1, 0, append(b, 1, 2, 3, 4, 5, 6)[:n]), ends, is, api.OK)
			}
		}
	}
	v := message(1, 1, 0, nil)
	for n := range v.Body {
		wantTells(t, datagram(58, v.Body[:n]), api.Ends6{}, false, api.OK)
		wantTells(t, datagram(58, make([]byte, n)), api.Ends6{}, false, api.OK)
	}
	wantTells(t, v, api.Ends6{}, false, api.OK)
	wantTells(t, datagram(58, nil), api.Ends6{}, false, api.OK)
}

// P18.5: a Body that is no packet, and packets that go not to the other side.
func TestTellsBodies(t *testing.T) {
	for first := range 256 {
		b := bytesOf(toldPacket(), 0)
		if b[0] = byte(first); first/16 == 6 {
			wantTells(t, message(4, 0, 0, b), told, true, api.OK)
		} else {
			wantTells(t, message(4, 0, 0, b), api.Ends6{}, false, api.OK)
		}
	}
	wantTells(t, message(1, 0, 0, make([]byte, 60)), api.Ends6{}, false, api.OK)
	wantTells(t, message(2, 0, 0, bytes.Repeat([]byte{0x45}, 60)), api.Ends6{}, false, api.OK)
	// An error about an error tells all the same, and so does one about what goes not to the other side.
	wantTells(t, message(1, 0, 0, bytesOf(message(1, 0, 0, bytesOf(toldPacket(), 0)), 0)), ends6, true, api.OK)
	other := toldPacket()
	other.Proto = 1
	wantTells(t, message(1, 0, 0, bytesOf(other, 0)), told, true, api.OK)
}

// P18.5: datagrams that may not be.
func TestTellsMayNotBe(t *testing.T) {
	v := message(1, 0, 0, bytesOf(toldPacket(), 0))
	for _, off := range []int{-1, 8192, 1 << 40, -1 << 62} {
		wantTells(t, fragment(v, off, false), api.Ends6{}, false, api.ErrV6)
	}
	for _, set := range []func(v *api.V6){
		func(v *api.V6) { v.ID = 1 },
		func(v *api.V6) { v.Off = 1 },
		func(v *api.V6) { v.More = true },
		func(v *api.V6) { v.Label = 1 << 20 },
		func(v *api.V6) { v.Heads = []api.Head{{Kind: 60}} },
		func(v *api.V6) { v.Heads = make([]api.Head, 9) },
	} {
		o := v
		set(&o)
		wantTells(t, o, api.Ends6{}, false, api.ErrV6)
		o.Proto, o.Body = 6, make([]byte, 70000)
		wantTells(t, o, api.Ends6{}, false, api.ErrV6)
	}
	long := bytesOf(datagram(6, make([]byte, 65535-8-40)), 0)
	v = message(1, 0, 0, long)
	wantTells(t, v, ends6, true, api.OK)
	wantTells(t, whole(v), api.Ends6{}, false, api.ErrLong)
	wantTells(t, withHeads(v, head(0, 1, 1)), api.Ends6{}, false, api.ErrLong)
	v.Body = append(v.Body, 0)
	wantTells(t, v, api.Ends6{}, false, api.ErrLong)
	v.Proto = 17
	wantTells(t, v, api.Ends6{}, false, api.ErrLong)
}

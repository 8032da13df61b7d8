package tosix_test

import (
	"bytes"
	"testing"

	"ferryman/api"
)

// wantTells holds Tells against an answer, and against the plain way.
func wantTells(t *testing.T, v api.V4, ends api.Ends4, is bool, want api.Errno) {
	t.Helper()
	if got, gotIs, e := holdTells(t, v); got != ends || gotIs != is || e != want {
		t.Errorf("%s: %v, %t, %d; want %v, %t, %d", show4(v), got, gotIs, e, ends, is, want)
	}
}

var told = api.Ends4{Src: api.Addr4{192, 0, 2, 18}, Dst: api.Addr4{198, 51, 100, 7}}

// toldPacket is a packet between those ends.
func toldPacket() []byte {
	v := datagram(17, []byte("body"))
	v.Src, v.Dst = told.Src, told.Dst
	return bytesOf(v, 10)
}

// P17.5: each type with each code: those of errors tell, whether their code means something or not.
func TestTellsTypes(t *testing.T) {
	for kind := range 256 {
		for code := range 256 {
			v := message(byte(kind), byte(code), 0xff000000, toldPacket())
			if kind == 3 || kind == 11 || kind == 12 {
				wantTells(t, v, told, true, api.OK)
			} else {
				wantTells(t, v, api.Ends4{}, false, api.OK)
			}
		}
	}
}

// P17.5: fragments tell of nothing; nor does another protocol, or what is no message.
func TestTellsOthers(t *testing.T) {
	v := message(11, 0, 0, toldPacket())
	wantTells(t, v, told, true, api.OK)
	for _, f := range kindsOfFragment(v) {
		wantTells(t, f, api.Ends4{}, false, api.OK)
	}
	for proto := range 256 {
		o := v
		o.Proto = byte(proto)
		if proto != 1 {
			wantTells(t, o, api.Ends4{}, false, api.OK)
		}
	}
	for i := range 8 * len(v.Body) {
		o := v
		o.Body = bytes.Clone(v.Body)
		o.Body[i/8] ^= 1 << (i % 8)
		wantTells(t, o, api.Ends4{}, false, api.OK)
	}
	v.DF, v.Options, v.TTL = true, []byte{131, 7, 4, 1, 2, 3, 4, 0}, 0
	wantTells(t, v, told, true, api.OK)
}

// P17.5: messages and packets in them that are cut off at each place.
func TestTellsCutOff(t *testing.T) {
	for _, options := range [][]byte{nil, {1, 1, 1, 1}, make([]byte, 40)} {
		v := datagram(58, []byte("body"))
		v.Src, v.Dst, v.Options = told.Src, told.Dst, options
		b := bytesOf(v, 3)
		for n := range len(b) + 6 {
			ends, is := told, true
			if n < 20+len(options) || n > len(b)+3 {
				ends, is = api.Ends4{}, false
			}
			wantTells(t, message(3, 1, 0, append(b, 1, 2, 3, 4, 5, 6)[:n]), ends, is, api.OK)
		}
	}
	v := message(3, 1, 0, nil)
	for n := range v.Body {
		wantTells(t, datagram(1, v.Body[:n]), api.Ends4{}, false, api.OK)
		wantTells(t, datagram(1, make([]byte, n)), api.Ends4{}, false, api.OK)
	}
}

// P17.5: a Body that is no packet, and packets that go not to the other side.
func TestTellsBodies(t *testing.T) {
	for first := range 256 {
		b := toldPacket()
		b[0] = byte(first)
		if good := first/16 == 4 && first%16 >= 5 && 4*(first%16) <= len(b); good {
			wantTells(t, message(12, 0, 0, b), told, true, api.OK)
		} else {
			wantTells(t, message(12, 0, 0, b), api.Ends4{}, false, api.OK)
		}
	}
	wantTells(t, message(3, 0, 0, make([]byte, 60)), api.Ends4{}, false, api.OK)
	wantTells(t, message(3, 0, 0, bytes.Repeat([]byte{0x60}, 60)), api.Ends4{}, false, api.OK)
	// An error about an error tells all the same.
	wantTells(t, message(3, 0, 0, bytesOf(message(3, 0, 0, toldPacket()), 0)), ends4, true, api.OK)
}

// P17.5: datagrams that may not be.
func TestTellsMayNotBe(t *testing.T) {
	for _, off := range []int{-1, 8192, 1 << 40, -1 << 62} {
		wantTells(t, fragment(message(3, 0, 0, toldPacket()), off, false), api.Ends4{}, false, api.ErrV4)
	}
	for _, n := range []int{1, 3, 44, 65536} {
		v := message(3, 0, 0, toldPacket())
		v.Options = make([]byte, n)
		wantTells(t, v, api.Ends4{}, false, api.ErrV4)
		v.Proto, v.Body = 6, make([]byte, 70000)
		wantTells(t, v, api.Ends4{}, false, api.ErrV4)
	}
	long := bytesOf(datagram(6, make([]byte, 65487-20)), 0)
	v := message(3, 0, 0, long)
	wantTells(t, v, ends4, true, api.OK)
	v = message(3, 0, 0, append(long, make([]byte, 20)...))
	wantTells(t, v, api.Ends4{}, false, api.OK)
	v = message(3, 0, 0, bytesOf(datagram(6, make([]byte, 65487)), 0))
	wantTells(t, v, ends4, true, api.OK)
	v.Options = make([]byte, 4)
	wantTells(t, v, api.Ends4{}, false, api.ErrLong)
	v.Options, v.Body = nil, append(v.Body, 0)
	wantTells(t, v, api.Ends4{}, false, api.ErrLong)
	v.Proto = 17
	wantTells(t, v, api.Ends4{}, false, api.ErrLong)
}

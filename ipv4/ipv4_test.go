package ipv4_test

import (
	"bytes"
	"encoding/binary"
	"math"
	"math/rand/v2"
	"reflect"
	"testing"

	"ferryman/api"
	"ferryman/ipv4"
)

func dice() *rand.Rand { return rand.New(rand.NewPCG(4, 10)) }

func someBytes(r *rand.Rand, n int) []byte {
	b := make([]byte, n)
	for i := range b {
		b[i] = byte(r.Uint32())
	}
	return b
}

// someV4 is a datagram that may be.
func someV4(r *rand.Rand) api.V4 {
	v := api.V4{
		TOS: byte(r.Uint32()), ID: uint16(r.Uint32()), DF: r.IntN(2) == 0, MF: r.IntN(2) == 0, Off: r.IntN(8192),
		TTL: byte(r.Uint32()), Proto: byte(r.Uint32()),
		Options: someBytes(r, 4*r.IntN(11)), Body: someBytes(r, r.IntN(40)),
	}
	copy(v.Src[:], someBytes(r, 4))
	copy(v.Dst[:], someBytes(r, 4))
	return v
}

// plainSum is the sum of words of an even number of bytes, written apart from the program: a number without bound, folded at the end.
func plainSum(b []byte) int {
	n := 0
	for i := 0; i < len(b); i += 2 {
		n += 256*int(b[i]) + int(b[i+1])
	}
	for n > 65535 {
		n = n%65536 + n/65536
	}
	return n
}

// setSum gives a header its checksum.
func setSum(head []byte) {
	binary.BigEndian.PutUint16(head[10:], 0)
	binary.BigEndian.PutUint16(head[10:], uint16(65535-plainSum(head)))
}

// plainBytes are the bytes of a datagram that may be, one field behind the other, written apart from the program.
func plainBytes(v api.V4) []byte {
	size := 20 + len(v.Options)
	word := v.Off
	if v.MF {
		word += 8192
	}
	if v.DF {
		word += 16384
	}
	b := []byte{byte(64 + size/4), v.TOS}
	b = binary.BigEndian.AppendUint16(b, uint16(size+len(v.Body)))
	b = binary.BigEndian.AppendUint16(b, v.ID)
	b = binary.BigEndian.AppendUint16(b, uint16(word))
	b = append(b, v.TTL, v.Proto, 0, 0)
	b = append(b, v.Src[:]...)
	b = append(b, v.Dst[:]...)
	b = append(b, v.Options...)
	setSum(b)
	return append(b, v.Body...)
}

// like holds two datagrams against each other apart from the program; nil and empty are alike.
func like(a, b api.V4) bool {
	a.Options, a.Body = append([]byte{}, a.Options...), append([]byte{}, a.Body...)
	b.Options, b.Body = append([]byte{}, b.Options...), append([]byte{}, b.Body...)
	return reflect.DeepEqual(a, b)
}

func zero(v api.V4) bool { return reflect.DeepEqual(v, api.V4{}) }

// P4.1 to P4.7: the errors have the numbers that the chapter names.
func TestNumbers(t *testing.T) {
	got := []api.Errno{api.ErrLong, api.ErrShort4, api.ErrVersion4, api.ErrHead4, api.ErrLength4, api.ErrSum4, api.ErrV4, api.ErrTTL, api.ErrOption}
	if want := []api.Errno{2, 40, 41, 42, 43, 44, 45, 46, 47}; !reflect.DeepEqual(got, want) {
		t.Errorf("%d", got)
	}
}

// testCheck holds Check, Write, Size and Hop against the error that a datagram has, or against its bytes.
func testCheck(t *testing.T, v api.V4, want api.Errno) {
	t.Helper()
	v.TTL = 9
	if e := ipv4.Check(v); e != want {
		t.Errorf("Off %d, %d of Options, %d of Body: Check = %d, want %d", v.Off, len(v.Options), len(v.Body), e, want)
	}
	b, e := ipv4.Write(v)
	if want != api.OK && (b != nil || e != want) {
		t.Errorf("Off %d, %d of Options, %d of Body: Write = %d bytes, %d, want %d", v.Off, len(v.Options), len(v.Body), len(b), e, want)
	}
	if want == api.OK && (!bytes.Equal(b, plainBytes(v)) || e != api.OK) {
		t.Errorf("Off %d, %d of Options, %d of Body: Write = %d bytes, %d", v.Off, len(v.Options), len(v.Body), len(b), e)
	}
	all, size := 20+len(v.Options)+len(v.Body), 20+len(v.Options)
	if want != api.OK {
		all, size = 0, 0
	}
	if n, h, e := ipv4.Size(v); n != all || h != size || e != want {
		t.Errorf("Off %d, %d of Options, %d of Body: Size = %d, %d, %d", v.Off, len(v.Options), len(v.Body), n, h, e)
	}
	w, e := ipv4.Hop(v)
	if want != api.OK && !zero(w) || e != want {
		t.Errorf("Off %d, %d of Options, %d of Body: Hop = %v, %d", v.Off, len(v.Options), len(v.Body), w, e)
	}
}

// P4.1, P4.7: Off of 0, 8191 and beyond.
func TestOff(t *testing.T) {
	for _, off := range []int{0, 1, 255, 256, 4096, 8190, 8191} {
		testCheck(t, api.V4{Off: off}, api.OK)
		testCheck(t, api.V4{Off: off, DF: true, MF: true}, api.OK)
	}
	for _, off := range []int{-1, 8192, 8193, 16384, 65536, 65536 + 5, -8192, math.MinInt, math.MaxInt, 1 << 32} {
		testCheck(t, api.V4{Off: off}, api.ErrV4)
	}
}

// P4.1: how many bytes of Options, and which error is told first.
func TestOptionsLength(t *testing.T) {
	r := dice()
	for n := range 100 {
		want := api.OK
		if n%4 != 0 || n > 40 {
			want = api.ErrV4
		}
		testCheck(t, api.V4{Options: someBytes(r, n)}, want)
		testCheck(t, api.V4{Options: someBytes(r, n), Off: 8191, Body: []byte{1}}, want)
		testCheck(t, api.V4{Options: someBytes(r, n), Off: 8192}, api.ErrV4)
	}
	for _, n := range []int{256, 65535, 65536, 65540, 1 << 20} {
		testCheck(t, api.V4{Options: make([]byte, n)}, api.ErrV4)
	}
	testCheck(t, api.V4{Options: nil, Body: nil}, api.OK)
	testCheck(t, api.V4{Options: []byte{}, Body: []byte{}}, api.OK)
}

// P4.1: just MaxPacket bytes, and one more; ErrV4 is told ahead of ErrLong.
func TestMaxPacket(t *testing.T) {
	r := dice()
	for n := 0; n <= 40; n += 4 {
		o := someBytes(r, n)
		most := api.MaxPacket - 20 - n
		testCheck(t, api.V4{Options: o, Body: someBytes(r, most-1)}, api.OK)
		testCheck(t, api.V4{Options: o, Body: someBytes(r, most)}, api.OK)
		for _, more := range []int{1, 2, 4, 20, 65536, 1 << 20} {
			long := make([]byte, most+more)
			testCheck(t, api.V4{Options: o, Body: long}, api.ErrLong)
			testCheck(t, api.V4{Options: o, Body: long, Off: 8191}, api.ErrLong)
			testCheck(t, api.V4{Options: o, Body: long, Off: 8192}, api.ErrV4)
			testCheck(t, api.V4{Options: o, Body: long, Off: -1}, api.ErrV4)
			testCheck(t, api.V4{Options: append(o, 0), Body: long}, api.ErrV4)
			testCheck(t, api.V4{Options: make([]byte, 44), Body: long}, api.ErrV4)
		}
	}
}

// P4.1: the chapter's example, and each field at its place.
func TestWriteFields(t *testing.T) {
	v := api.V4{TTL: 64, Proto: 17, Src: api.Addr4{10, 0, 0, 1}, Dst: api.Addr4{10, 0, 0, 2}}
	for _, c := range []struct {
		set  func(v *api.V4)
		want string
	}{
		{func(v *api.V4) {}, "\x45\x00\x00\x14\x00\x00\x00\x00\x40\x11\x66\xd7\x0a\x00\x00\x01\x0a\x00\x00\x02"},
		{func(v *api.V4) { v.TOS = 0xb8 }, "\x45\xb8\x00\x14\x00\x00\x00\x00\x40\x11\x66\x1f\x0a\x00\x00\x01\x0a\x00\x00\x02"},
		{func(v *api.V4) { v.ID = 0x1234 }, "\x45\x00\x00\x14\x12\x34\x00\x00\x40\x11\x54\xa3\x0a\x00\x00\x01\x0a\x00\x00\x02"},
		{func(v *api.V4) { v.DF = true }, "\x45\x00\x00\x14\x00\x00\x40\x00\x40\x11\x26\xd7\x0a\x00\x00\x01\x0a\x00\x00\x02"},
		{func(v *api.V4) { v.MF = true }, "\x45\x00\x00\x14\x00\x00\x20\x00\x40\x11\x46\xd7\x0a\x00\x00\x01\x0a\x00\x00\x02"},
		{func(v *api.V4) { v.Off = 8191 }, "\x45\x00\x00\x14\x00\x00\x1f\xff\x40\x11\x46\xd8\x0a\x00\x00\x01\x0a\x00\x00\x02"},
		{func(v *api.V4) { v.Body = []byte("hi!") }, "\x45\x00\x00\x17\x00\x00\x00\x00\x40\x11\x66\xd4\x0a\x00\x00\x01\x0a\x00\x00\x02hi!"},
		{func(v *api.V4) { v.Options = []byte{7, 3, 4, 0} }, "\x46\x00\x00\x18\x00\x00\x00\x00\x40\x11\x5a\xd0\x0a\x00\x00\x01\x0a\x00\x00\x02\x07\x03\x04\x00"},
	} {
		w := v
		c.set(&w)
		if b, e := ipv4.Write(w); string(b) != c.want || e != api.OK {
			t.Errorf("%+v: % x, %d", w, b, e)
		}
	}
}

// P4.1, P4.8: random datagrams, there and back.
func TestThereAndBack(t *testing.T) {
	r := dice()
	for range 5000 {
		v := someV4(r)
		b, e := ipv4.Write(v)
		if e != api.OK || !bytes.Equal(b, plainBytes(v)) {
			t.Fatalf("%+v: % x, %d", v, b, e)
		}
		if n, h, e := ipv4.Size(v); n != len(b) || h != 4*int(b[0]&15) || e != api.OK {
			t.Fatalf("%+v: Size = %d, %d, %d", v, n, h, e)
		}
		w, at, e := ipv4.Parse(b)
		if !like(v, w) || !ipv4.Same(v, w) || at != 0 || e != api.OK {
			t.Fatalf("% x: %+v, %d, %d", b, w, at, e)
		}
		if again, e := ipv4.Write(w); !bytes.Equal(again, b) || e != api.OK {
			t.Fatalf("% x: written again % x, %d", b, again, e)
		}
	}
}

// P4.8: of a datagram of MaxPacket bytes too.
func TestThereAndBackLong(t *testing.T) {
	r := dice()
	for _, n := range []int{0, 4, 40} {
		v := someV4(r)
		v.Options, v.Body = someBytes(r, n), someBytes(r, api.MaxPacket-20-n)
		b, e := ipv4.Write(v)
		if len(b) != api.MaxPacket || e != api.OK {
			t.Fatalf("%d bytes, %d", len(b), e)
		}
		if w, at, e := ipv4.Parse(b); !like(v, w) || at != 0 || e != api.OK {
			t.Errorf("%d of Options: %d, %d", n, at, e)
		}
		if w, at, e := ipv4.Parse(append(b, 0)); !zero(w) || at != 2 || e != api.ErrLength4 {
			t.Errorf("%d of Options, one byte more: %d, %d", n, at, e)
		}
		// 65536 more would be the same length in two bytes.
		if w, at, e := ipv4.Parse(append(b, make([]byte, 65536)...)); !zero(w) || at != 2 || e != api.ErrLength4 {
			t.Errorf("%d of Options, 65536 bytes more: %d, %d", n, at, e)
		}
	}
}

// P4.4: each field tells two apart; nil and empty do not.
func TestSame(t *testing.T) {
	r := dice()
	for range 200 {
		a := someV4(r)
		a.Options, a.Body = someBytes(r, 4+r.IntN(50)), someBytes(r, 1+r.IntN(50))
		b := a
		b.Options, b.Body = bytes.Clone(a.Options), bytes.Clone(a.Body)
		if !ipv4.Same(a, b) || !ipv4.Same(b, a) || !ipv4.Same(a, a) {
			t.Fatalf("%+v, %+v: not the same", a, b)
		}
		for i, set := range []func(v *api.V4){
			func(v *api.V4) { v.TOS++ },
			func(v *api.V4) { v.ID += 256 },
			func(v *api.V4) { v.ID++ },
			func(v *api.V4) { v.DF = !v.DF },
			func(v *api.V4) { v.MF = !v.MF },
			func(v *api.V4) { v.Off += 8192 },
			func(v *api.V4) { v.Off = -v.Off - 1 },
			func(v *api.V4) { v.TTL-- },
			func(v *api.V4) { v.Proto++ },
			func(v *api.V4) { v.Src[r.IntN(4)]++ },
			func(v *api.V4) { v.Dst[r.IntN(4)]++ },
			func(v *api.V4) { v.Src, v.Dst = api.Addr4{1, 2, 3, 4}, api.Addr4{4, 3, 2, 1} },
			func(v *api.V4) { v.Options[r.IntN(len(v.Options))]++ },
			func(v *api.V4) { v.Options = v.Options[1:] },
			func(v *api.V4) { v.Options = append(v.Options, 0) },
			func(v *api.V4) { v.Options = nil },
			func(v *api.V4) { v.Body[r.IntN(len(v.Body))]++ },
			func(v *api.V4) { v.Body = v.Body[:len(v.Body)-1] },
			func(v *api.V4) { v.Body = append(v.Body, 0) },
			func(v *api.V4) { v.Body = []byte{} },
			func(v *api.V4) { v.Options, v.Body = v.Options[:3], append(v.Options[3:], v.Body...) },
		} {
			c := b
			c.Options, c.Body = bytes.Clone(a.Options), bytes.Clone(a.Body)
			set(&c)
			if ipv4.Same(a, c) || ipv4.Same(c, a) {
				t.Fatalf("change %d: %+v, %+v: the same", i, a, c)
			}
		}
	}
	for _, c := range []api.V4{{}, {Options: []byte{}}, {Body: []byte{}}, {Options: make([]byte, 0, 4), Body: make([]byte, 0, 4)}} {
		if !ipv4.Same(c, api.V4{}) || !ipv4.Same(api.V4{}, c) {
			t.Errorf("%#v is not the same as nothing", c)
		}
	}
	// Datagrams that may not be are held against each other all the same.
	if w := (api.V4{Off: -1, Options: make([]byte, 3), Body: make([]byte, 70000)}); !ipv4.Same(w, w) || ipv4.Same(w, api.V4{Off: -1}) {
		t.Error("one that may not be is not the same as itself")
	}
}

// P4.7: each TTL.
func TestHop(t *testing.T) {
	r := dice()
	for ttl := range 256 {
		v := someV4(r)
		v.TTL = byte(ttl)
		w, e := ipv4.Hop(v)
		if ttl < 2 {
			if !zero(w) || e != api.ErrTTL {
				t.Errorf("TTL %d: %+v, %d", ttl, w, e)
			}
			continue
		}
		want := v
		want.TTL = byte(ttl - 1)
		if !like(w, want) || e != api.OK || int(v.TTL) != ttl {
			t.Errorf("%+v: %+v, %d", v, w, e)
		}
	}
}

// P4.7: Check's number is told ahead of ErrTTL.
func TestHopFirst(t *testing.T) {
	for ttl := range byte(4) {
		for _, c := range []struct {
			v api.V4
			e api.Errno
		}{
			{api.V4{TTL: ttl, Off: 8192}, api.ErrV4},
			{api.V4{TTL: ttl, Off: -1}, api.ErrV4},
			{api.V4{TTL: ttl, Options: make([]byte, 3)}, api.ErrV4},
			{api.V4{TTL: ttl, Options: make([]byte, 44)}, api.ErrV4},
			{api.V4{TTL: ttl, Body: make([]byte, 65516)}, api.ErrLong},
			{api.V4{TTL: ttl, Off: 8192, Body: make([]byte, 65516)}, api.ErrV4},
		} {
			if w, e := ipv4.Hop(c.v); !zero(w) || e != c.e {
				t.Errorf("TTL %d: %d, want %d", ttl, e, c.e)
			}
		}
	}
	for _, ttl := range []byte{0, 1} {
		if w, e := ipv4.Hop(api.V4{TTL: ttl, Body: make([]byte, 65515)}); !zero(w) || e != api.ErrTTL {
			t.Errorf("TTL %d of MaxPacket bytes: %d", ttl, e)
		}
	}
}

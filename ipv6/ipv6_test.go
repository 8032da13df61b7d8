package ipv6_test

import (
	"bytes"
	"encoding/binary"
	"math"
	"math/rand/v2"
	"reflect"
	"slices"
	"testing"

	"ferryman/api"
	"ferryman/ipv6"
)

func dice() *rand.Rand { return rand.New(rand.NewPCG(5, 6)) }

func someBytes(r *rand.Rand, n int) []byte {
	b := make([]byte, n)
	for i := range b {
		b[i] = byte(r.Uint32())
	}
	return b
}

// someProto is a protocol; those that are headers are as likely as all others.
func someProto(r *rand.Rand) byte {
	if r.IntN(2) == 0 {
		return []byte{0, 43, 44, 60, 59}[r.IntN(5)]
	}
	return byte(r.Uint32())
}

// someV6 is a datagram that may be.
func someV6(r *rand.Rand) api.V6 {
	v := api.V6{Class: byte(r.Uint32()), Label: r.Uint32N(1 << 20), Hop: byte(r.Uint32()), Proto: someProto(r), Body: someBytes(r, r.IntN(40))}
	copy(v.Src[:], someBytes(r, 16))
	copy(v.Dst[:], someBytes(r, 16))
	for i := range r.IntN(9) {
		kinds := []byte{43, 60, 0}
		v.Heads = append(v.Heads, api.Head{Kind: kinds[r.IntN(3-min(i, 1))], Body: someBytes(r, 6+8*r.IntN(4))})
	}
	if r.IntN(2) == 0 {
		v.Frag, v.ID, v.Off, v.More = true, r.Uint32(), r.IntN(8192), r.IntN(2) == 0
	}
	for !v.Frag && slices.Contains([]byte{0, 43, 44, 60}, v.Proto) {
		v.Proto = someProto(r)
	}
	return v
}

// plainBytes are the bytes of a datagram that may be, from the last ones to the first, written apart from the program.
func plainBytes(v api.V6) []byte {
	b, next := bytes.Clone(v.Body), v.Proto
	if v.Frag {
		word := 8 * v.Off
		if v.More {
			word++
		}
		h := binary.BigEndian.AppendUint16([]byte{next, 0}, uint16(word))
		h = binary.BigEndian.AppendUint32(h, v.ID)
		b, next = append(h, b...), 44
	}
	for _, x := range slices.Backward(v.Heads) {
		h := append([]byte{next, byte((len(x.Body) - 6) / 8)}, x.Body...)
		b, next = append(h, b...), x.Kind
	}
	h := binary.BigEndian.AppendUint32(nil, 6*(1<<28)+uint32(v.Class)*(1<<20)+v.Label)
	h = binary.BigEndian.AppendUint16(h, uint16(len(b)))
	h = append(h, next, v.Hop)
	h = append(h, v.Src[:]...)
	h = append(h, v.Dst[:]...)
	return append(h, b...)
}

// plainAhead is how many of a datagram's bytes stand ahead of its Body.
func plainAhead(v api.V6) int {
	n := 40
	for _, h := range v.Heads {
		n += 2 + len(h.Body)
	}
	if v.Frag {
		n += 8
	}
	return n
}

// copied is a datagram that shares nothing with another; nil lists are empty ones.
func copied(v api.V6) api.V6 {
	heads := []api.Head{}
	for _, h := range v.Heads {
		heads = append(heads, api.Head{Kind: h.Kind, Body: append([]byte{}, h.Body...)})
	}
	v.Heads, v.Body = heads, append([]byte{}, v.Body...)
	return v
}

// like holds two datagrams against each other apart from the program; nil and empty are alike.
func like(a, b api.V6) bool { return reflect.DeepEqual(copied(a), copied(b)) }

func zero(v api.V6) bool { return reflect.DeepEqual(v, api.V6{}) }

// P5.1, P5.2: the errors have the numbers that the chapter names.
func TestNumbers(t *testing.T) {
	got := []api.Errno{api.ErrLong, api.ErrShort6, api.ErrVersion6, api.ErrLength6, api.ErrHead6, api.ErrV6}
	if want := []api.Errno{2, 50, 51, 52, 53, 54}; !reflect.DeepEqual(got, want) {
		t.Errorf("%d", got)
	}
}

// shape tells of a datagram what its errors hang on.
func shape(v api.V6) []any {
	out := []any{"Label", v.Label, "Frag", v.Frag, "ID", v.ID, "Off", v.Off, "More", v.More, "Proto", v.Proto, "Body", len(v.Body), "Heads"}
	for _, h := range v.Heads {
		out = append(out, h.Kind, len(h.Body))
	}
	return out
}

// testCheck holds Check, Write and Size against the error that a datagram has, or against its bytes.
func testCheck(t *testing.T, v api.V6, want api.Errno) {
	t.Helper()
	if e := ipv6.Check(v); e != want {
		t.Errorf("%v: Check = %d, want %d", shape(v), e, want)
	}
	b, e := ipv6.Write(v)
	n, h, f := ipv6.Size(v)
	if want != api.OK {
		if b != nil || e != want || n != 0 || h != 0 || f != want {
			t.Errorf("%v: Write = %d bytes, %d; Size = %d, %d, %d; want %d", shape(v), len(b), e, n, h, f, want)
		}
		return
	}
	if !bytes.Equal(b, plainBytes(v)) || e != api.OK {
		t.Errorf("%v: Write = %d bytes, %d", shape(v), len(b), e)
	}
	if n != len(b) || h != plainAhead(v) || f != api.OK {
		t.Errorf("%v: Size = %d, %d, %d", shape(v), n, h, f)
	}
	if w, at, e := ipv6.Parse(b); !like(v, w) || at != 0 || e != api.OK {
		t.Errorf("%v: Parse of Write = %v, %d, %d", shape(v), shape(w), at, e)
	}
}

// plain is a datagram of protocol UDP that may be.
func plain() api.V6 { return api.V6{Hop: 64, Proto: 17, Body: []byte{1, 2, 3}} }

func with(set func(v *api.V6)) api.V6 {
	v := plain()
	set(&v)
	return v
}

// withHeads is a datagram with heads of those kinds, each with 6 bytes of Body.
func withHeads(kinds ...byte) api.V6 {
	v := plain()
	for _, k := range kinds {
		v.Heads = append(v.Heads, api.Head{Kind: k, Body: []byte{1, 2, 3, 4, k, 6}})
	}
	return v
}

// framed is a datagram with a fragment header.
func framed(v api.V6, off int) api.V6 {
	v.Frag, v.ID, v.Off, v.More = true, 0x12345678, off, true
	return v
}

// P5.1: Label of 2^20 less 1, and of 2^20.
func TestLabel(t *testing.T) {
	for _, label := range []uint32{0, 1, 255, 256, 65536, 1<<19 - 1, 1 << 19, 1<<20 - 2, 1<<20 - 1} {
		for _, class := range []uint8{0, 1, 15, 16, 255} {
			testCheck(t, with(func(v *api.V6) { v.Label, v.Class = label, class }), api.OK)
		}
	}
	for _, label := range []uint32{1 << 20, 1<<20 + 1, 1 << 21, 1 << 24, 1 << 28, 1 << 31, math.MaxUint32} {
		testCheck(t, with(func(v *api.V6) { v.Label = label }), api.ErrV6)
		testCheck(t, framed(with(func(v *api.V6) { v.Label = label }), 0), api.ErrV6)
	}
}

// P5.1: 0, 8 and 9 heads, with a fragment header and without.
func TestHeadsCount(t *testing.T) {
	for n := range 20 {
		want := api.OK
		if n > 8 {
			want = api.ErrV6
		}
		for _, kind := range []byte{43, 60} {
			v := withHeads(bytes.Repeat([]byte{kind}, n)...)
			testCheck(t, v, want)
			testCheck(t, framed(v, 3), want)
			if n > 0 {
				v.Heads[0].Kind = 0
			}
			testCheck(t, v, want)
			testCheck(t, framed(v, 3), want)
		}
	}
	testCheck(t, api.V6{Proto: 59, Heads: nil, Body: nil}, api.OK)
	testCheck(t, api.V6{Proto: 59, Heads: []api.Head{}, Body: []byte{}}, api.OK)
	testCheck(t, api.V6{Proto: 59, Heads: make([]api.Head, 1<<16)}, api.ErrV6)
}

// P5.1: each kind of a head, as the first one and as a later one.
func TestHeadsKinds(t *testing.T) {
	for kind := range 256 {
		k := byte(kind)
		first, later := api.ErrV6, api.ErrV6
		if kind == 43 || kind == 60 {
			first, later = api.OK, api.OK
		}
		if kind == 0 {
			first = api.OK
		}
		testCheck(t, withHeads(k), first)
		testCheck(t, withHeads(k, 43), first)
		testCheck(t, withHeads(k, 60, 43), first)
		testCheck(t, framed(withHeads(k), 1), first)
		for _, ahead := range []byte{0, 43, 60} {
			testCheck(t, withHeads(ahead, k), later)
			testCheck(t, framed(withHeads(ahead, k), 1), later)
			testCheck(t, withHeads(ahead, 43, k), later)
			testCheck(t, withHeads(ahead, k, 60), later)
			testCheck(t, withHeads(ahead, 60, 60, 60, 60, 60, 60, k), later)
		}
	}
}

// P5.1: each length of a head's Body, as the first one and as a later one.
func TestHeadsBodies(t *testing.T) {
	r := dice()
	for n := range 2080 {
		want := api.ErrV6
		if n%8 == 6 && n <= 2046 {
			want = api.OK
		}
		for _, heads := range [][]byte{{0}, {43}, {60, 43}, {0, 60, 60, 60, 60, 60, 60, 60}} {
			v := withHeads(heads...)
			v.Heads[len(heads)-1].Body = someBytes(r, n)
			testCheck(t, v, want)
		}
	}
	for _, n := range []int{2046 + 2048, 4096 + 6, 65534, 65536, 65542, 1<<20 + 6} {
		v := withHeads(0, 60)
		v.Heads[0].Body = make([]byte, n)
		testCheck(t, v, api.ErrV6)
	}
	for _, c := range []struct {
		n    int
		want api.Errno
	}{{0, api.ErrV6}, {6, api.OK}, {7, api.ErrV6}, {8, api.ErrV6}, {14, api.OK}, {2046, api.OK}, {2054, api.ErrV6}} {
		testCheck(t, api.V6{Proto: 6, Heads: []api.Head{{Kind: 60, Body: make([]byte, c.n)}}}, c.want)
	}
	testCheck(t, api.V6{Proto: 6, Heads: []api.Head{{Kind: 60}}}, api.ErrV6)
	testCheck(t, api.V6{Proto: 6, Heads: []api.Head{{Kind: 60, Body: []byte{}}}}, api.ErrV6)
}

// P5.1: with a fragment header Off from 0 to 8191, any ID, More and Proto; without one none of them.
func TestFragmentHeader(t *testing.T) {
	for _, off := range []int{0, 1, 31, 32, 255, 256, 4096, 8190, 8191} {
		testCheck(t, framed(plain(), off), api.OK)
		testCheck(t, with(func(v *api.V6) { v.Frag, v.Off = true, off }), api.OK)
	}
	for _, off := range []int{-1, -8191, -8192, 8192, 8193, 16384, 65535, 65536, 65536 + 5, 1 << 32, math.MinInt, math.MaxInt} {
		testCheck(t, framed(plain(), off), api.ErrV6)
		testCheck(t, with(func(v *api.V6) { v.Off = off }), api.ErrV6)
	}
	for _, off := range []int{1, 8191} {
		testCheck(t, with(func(v *api.V6) { v.Off = off }), api.ErrV6)
	}
	for _, id := range []uint32{1, 255, 65536, 1 << 31, math.MaxUint32} {
		testCheck(t, with(func(v *api.V6) { v.ID = id }), api.ErrV6)
		testCheck(t, with(func(v *api.V6) { v.Frag, v.ID = true, id }), api.OK)
	}
	testCheck(t, with(func(v *api.V6) { v.More = true }), api.ErrV6)
	testCheck(t, with(func(v *api.V6) { v.Frag, v.More = true, true }), api.OK)
	testCheck(t, with(func(v *api.V6) { v.Frag = true }), api.OK)
}

// P5.1: each Proto, with a fragment header and without, and with heads ahead of it.
func TestProto(t *testing.T) {
	for proto := range 256 {
		want := api.OK
		if proto == 0 || proto == 43 || proto == 44 || proto == 60 {
			want = api.ErrV6
		}
		for _, v := range []api.V6{plain(), withHeads(0), withHeads(60, 43)} {
			v.Proto = byte(proto)
			testCheck(t, v, want)
			testCheck(t, framed(v, 0), api.OK)
			testCheck(t, framed(v, 7), api.OK)
		}
	}
}

// P5.1: just MaxPacket bytes behind the first 40, and one more; ErrV6 is told ahead of ErrLong.
func TestMaxPacket(t *testing.T) {
	long := []api.V6{plain(), withHeads(0), withHeads(0, 43, 60), framed(plain(), 8191), framed(withHeads(60, 60, 60, 60, 60, 60, 60, 60), 0)}
	eight := withHeads(0, 60, 60, 60, 60, 60, 60, 60)
	for i := range eight.Heads {
		eight.Heads[i].Body = make([]byte, 2046)
	}
	long = append(long, eight, framed(eight, 1))
	for _, v := range long {
		most := api.MaxPacket + 40 - plainAhead(v)
		v.Body = someBytes(dice(), most)
		testCheck(t, v, api.OK)
		w := v
		w.Body = v.Body[1:]
		testCheck(t, w, api.OK)
		for _, more := range []int{1, 2, 8, 40, 48, 65536, 1 << 20} {
			w.Body = make([]byte, most+more)
			testCheck(t, w, api.ErrLong)
			for i, set := range []func(v *api.V6){
				func(v *api.V6) { v.Label = 1 << 20 },
				func(v *api.V6) { v.Heads = make([]api.Head, 9) },
				func(v *api.V6) { v.Heads = []api.Head{{Kind: 17, Body: make([]byte, 6)}} },
				func(v *api.V6) { v.Heads = []api.Head{{Kind: 60, Body: make([]byte, 7)}} },
				func(v *api.V6) { v.Heads = []api.Head{{Kind: 60, Body: make([]byte, 2054)}} },
				func(v *api.V6) { v.Off = 8192 },
				func(v *api.V6) { v.Off = -1 },
				func(v *api.V6) { v.Frag, v.Off, v.More, v.ID = false, 0, false, 1 },
				func(v *api.V6) { v.Frag, v.Off, v.More, v.ID = false, 0, true, 0 },
				func(v *api.V6) { v.Frag, v.Off, v.More, v.ID, v.Proto = false, 0, false, 0, 44 },
			} {
				x := w
				set(&x)
				if e := ipv6.Check(x); e != api.ErrV6 {
					t.Errorf("change %d: %d", i, e)
				}
			}
		}
	}
}

// P5.1: the chapter's example, and each field at its place.
func TestWriteFields(t *testing.T) {
	v := api.V6{Hop: 64, Proto: 59, Dst: api.Addr6{15: 1}}
	rest := "\x3b\x40" + string(make([]byte, 31)) + "\x01"
	ends := "\x40" + string(make([]byte, 31)) + "\x01"
	src := string([]byte{1, 2, 3, 4, 5, 6, 7, 8, 9, 10, 11, 12, 13, 14, 15, 16})
	for _, c := range []struct {
		set  func(v *api.V6)
		want string
	}{
		{func(v *api.V6) {}, "\x60\x00\x00\x00\x00\x00" + rest},
		{func(v *api.V6) { v.Class = 0xb8 }, "\x6b\x80\x00\x00\x00\x00" + rest},
		{func(v *api.V6) { v.Label = 0xabcde }, "\x60\x0a\xbc\xde\x00\x00" + rest},
		{func(v *api.V6) { v.Class, v.Label = 0xff, 0xfffff }, "\x6f\xff\xff\xff\x00\x00" + rest},
		{func(v *api.V6) { v.Body = []byte("hi!") }, "\x60\x00\x00\x00\x00\x03" + rest + "hi!"},
		{func(v *api.V6) { v.Proto, v.Hop = 17, 255 }, "\x60\x00\x00\x00\x00\x00\x11\xff" + string(make([]byte, 31)) + "\x01"},
		{func(v *api.V6) { v.Src = api.Addr6([]byte(src)) }, "\x60\x00\x00\x00\x00\x00\x3b\x40" + src + string(make([]byte, 15)) + "\x01"},
		{func(v *api.V6) { v.Dst = api.Addr6([]byte(src)) }, "\x60\x00\x00\x00\x00\x00\x3b\x40" + string(make([]byte, 16)) + src},
		{func(v *api.V6) { v.Heads = []api.Head{{Kind: 0, Body: []byte("abcdef")}} }, "\x60\x00\x00\x00\x00\x08\x00" + ends + "\x3b\x00abcdef"},
		{func(v *api.V6) {
			v.Heads = []api.Head{{Kind: 60, Body: []byte("abcdefghijklmn")}, {Kind: 43, Body: []byte("opqrst")}}
			v.Body = []byte("!")
		}, "\x60\x00\x00\x00\x00\x19\x3c" + ends + "\x2b\x01abcdefghijklmn\x3b\x00opqrst!"},
		{func(v *api.V6) { v.Frag = true }, "\x60\x00\x00\x00\x00\x08\x2c" + ends + "\x3b\x00\x00\x00\x00\x00\x00\x00"},
		{func(v *api.V6) { v.Frag, v.More = true, true }, "\x60\x00\x00\x00\x00\x08\x2c" + ends + "\x3b\x00\x00\x01\x00\x00\x00\x00"},
		{func(v *api.V6) { v.Frag, v.Off = true, 8191 }, "\x60\x00\x00\x00\x00\x08\x2c" + ends + "\x3b\x00\xff\xf8\x00\x00\x00\x00"},
		{func(v *api.V6) { v.Frag, v.Off, v.ID = true, 1, 0x12345678 }, "\x60\x00\x00\x00\x00\x08\x2c" + ends + "\x3b\x00\x00\x08\x12\x34\x56\x78"},
		{func(v *api.V6) {
			v.Frag, v.Proto, v.Body = true, 60, []byte("?")
			v.Heads = []api.Head{{Kind: 0, Body: []byte("abcdef")}}
		}, "\x60\x00\x00\x00\x00\x11\x00" + ends + "\x2c\x00abcdef\x3c\x00\x00\x00\x00\x00\x00\x00?"},
	} {
		w := v
		c.set(&w)
		if b, e := ipv6.Write(w); string(b) != c.want || e != api.OK {
			t.Errorf("%+v: % x, %d", w, b, e)
		}
	}
}

// P5.1, P5.5: random datagrams, there and back.
func TestThereAndBack(t *testing.T) {
	r := dice()
	for range 5000 {
		v := someV6(r)
		b, e := ipv6.Write(v)
		if e != api.OK || !bytes.Equal(b, plainBytes(v)) {
			t.Fatalf("%+v: % x, %d", v, b, e)
		}
		if n, h, e := ipv6.Size(v); n != len(b) || h != len(b)-len(v.Body) || e != api.OK {
			t.Fatalf("%+v: Size = %d, %d, %d", v, n, h, e)
		}
		w, at, e := ipv6.Parse(b)
		if !like(v, w) || !ipv6.Same(v, w) || at != 0 || e != api.OK {
			t.Fatalf("% x: %+v, %d, %d", b, w, at, e)
		}
		if again, e := ipv6.Write(w); !bytes.Equal(again, b) || e != api.OK {
			t.Fatalf("% x: written again % x, %d", b, again, e)
		}
	}
}

// P5.4: each field tells two apart; nil and empty do not.
func TestSame(t *testing.T) {
	r := dice()
	for range 300 {
		a := someV6(r)
		a.Heads = append(a.Heads, api.Head{Kind: 7, Body: someBytes(r, 5)}, api.Head{Kind: 8, Body: someBytes(r, 5)})
		a.Body = someBytes(r, 1+r.IntN(50))
		if b := copied(a); !ipv6.Same(a, b) || !ipv6.Same(b, a) || !ipv6.Same(a, a) {
			t.Fatalf("%+v, %+v: not the same", a, b)
		}
		i := r.IntN(len(a.Heads))
		last := len(a.Heads) - 1
		for k, set := range []func(v *api.V6){
			func(v *api.V6) { v.Class++ },
			func(v *api.V6) { v.Label++ },
			func(v *api.V6) { v.Label += 1 << 20 },
			func(v *api.V6) { v.Hop-- },
			func(v *api.V6) { v.Src[r.IntN(16)]++ },
			func(v *api.V6) { v.Dst[r.IntN(16)]++ },
			func(v *api.V6) { v.Src, v.Dst = v.Dst, v.Src },
			func(v *api.V6) { v.Frag = !v.Frag },
			func(v *api.V6) { v.ID++ },
			func(v *api.V6) { v.ID += 1 << 16 },
			func(v *api.V6) { v.Off += 8192 },
			func(v *api.V6) { v.Off = -v.Off - 1 },
			func(v *api.V6) { v.More = !v.More },
			func(v *api.V6) { v.Proto++ },
			func(v *api.V6) { v.Heads = nil },
			func(v *api.V6) { v.Heads = v.Heads[:last] },
			func(v *api.V6) { v.Heads = v.Heads[1:] },
			func(v *api.V6) { v.Heads = append(v.Heads, api.Head{}) },
			func(v *api.V6) { v.Heads[i].Kind++ },
			func(v *api.V6) { v.Heads[i].Body[r.IntN(5)]++ },
			func(v *api.V6) { v.Heads[i].Body = v.Heads[i].Body[1:] },
			func(v *api.V6) { v.Heads[i].Body = append(v.Heads[i].Body, 0) },
			func(v *api.V6) { v.Heads[i].Body = nil },
			func(v *api.V6) { v.Heads[last], v.Heads[last-1] = v.Heads[last-1], v.Heads[last] },
			func(v *api.V6) { v.Body[r.IntN(len(v.Body))]++ },
			func(v *api.V6) { v.Body = v.Body[:len(v.Body)-1] },
			func(v *api.V6) { v.Body = append(v.Body, 0) },
			func(v *api.V6) { v.Body = []byte{} },
			func(v *api.V6) {
				v.Heads[last].Body, v.Body = v.Heads[last].Body[:3], append(v.Heads[last].Body[3:], v.Body...)
			},
		} {
			c := copied(a)
			set(&c)
			if ipv6.Same(a, c) || ipv6.Same(c, a) {
				t.Fatalf("change %d: %+v, %+v: the same", k, a, c)
			}
		}
	}
}

// P5.4: nil and empty are alike, and those that may not be are held against each other all the same.
func TestSameEmpty(t *testing.T) {
	for _, c := range []api.V6{{}, {Heads: []api.Head{}}, {Body: []byte{}}, {Heads: make([]api.Head, 0, 4), Body: make([]byte, 0, 4)}} {
		if !ipv6.Same(c, api.V6{}) || !ipv6.Same(api.V6{}, c) {
			t.Errorf("%#v is not the same as nothing", c)
		}
	}
	a, b := api.V6{Heads: []api.Head{{Kind: 60}}}, api.V6{Heads: []api.Head{{Kind: 60, Body: []byte{}}}}
	if !ipv6.Same(a, b) || !ipv6.Same(b, a) || ipv6.Same(a, api.V6{}) || ipv6.Same(api.V6{}, a) {
		t.Error("a head without a Body is not like one with an empty Body, or is like none")
	}
	w := api.V6{Label: 1 << 30, Off: -1, Heads: make([]api.Head, 20), Body: make([]byte, 70000)}
	if !ipv6.Same(w, copied(w)) || ipv6.Same(w, api.V6{Label: 1 << 30, Off: -1}) {
		t.Error("one that may not be is not the same as itself")
	}
}

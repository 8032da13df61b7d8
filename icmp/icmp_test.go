package icmp_test

import (
	"bytes"
	"encoding/binary"
	"math/rand/v2"
	"reflect"
	"testing"

	"ferryman/api"
	"ferryman/icmp"
)

func dice() *rand.Rand { return rand.New(rand.NewPCG(7, 7)) }

func someBytes(r *rand.Rand, n int) []byte {
	b := make([]byte, n)
	for i := range b {
		b[i] = byte(r.Uint32())
	}
	return b
}

func someMessage(r *rand.Rand) api.Icmp {
	return api.Icmp{Type: uint8(r.Uint32()), Code: uint8(r.Uint32()), Rest: r.Uint32(), Body: someBytes(r, r.IntN(40))}
}

// network is what messages go over, and the calls of that kind; over IPv4 it has no ends.
type network struct {
	name     string
	six      bool
	src, dst api.Addr6
}

func (n network) write(m api.Icmp) ([]byte, api.Errno) {
	if n.six {
		return icmp.Write6(n.src, n.dst, m)
	}
	return icmp.Write4(m)
}

func (n network) parse(b []byte) (api.Icmp, api.Errno) {
	if n.six {
		return icmp.Parse6(n.src, n.dst, b)
	}
	return icmp.Parse4(b)
}

func (n network) kind(m api.Icmp) api.IcmpKind {
	if n.six {
		return icmp.Kind6(m)
	}
	return icmp.Kind4(m)
}

func (n network) fault(kind api.IcmpKind, code uint8, rest uint32, packet []byte) (api.Icmp, api.Errno) {
	if n.six {
		return icmp.Error6(kind, code, rest, packet)
	}
	return icmp.Error4(kind, code, rest, packet)
}

// ahead is a pseudo header, written apart from the program; over IPv4 there is none.
func (n network) ahead(length int) []byte {
	if !n.six {
		return nil
	}
	b := append(append([]byte{}, n.src[:]...), n.dst[:]...)
	b = binary.BigEndian.AppendUint32(b, uint32(length))
	return append(b, 0, 0, 0, 58)
}

// sum is what the checksum of bytes is told by.
func (n network) sum(b []byte) int { return plainSum(append(n.ahead(len(b)), b...)) }

// networks are one of each kind.
func networks(r *rand.Rand) []network {
	return []network{{name: "IPv4"}, {"IPv6", true, api.Addr6(someBytes(r, 16)), api.Addr6(someBytes(r, 16))}}
}

// plainSum is the sum of bytes' words, written apart from the program: a number without bound, folded at the end.
func plainSum(b []byte) int {
	n := 0
	for i, x := range b {
		if i%2 == 0 {
			n += 256 * int(x)
		} else {
			n += int(x)
		}
	}
	for n > 65535 {
		n = n%65536 + n/65536
	}
	return n
}

// setSum gives bytes a right checksum.
func setSum(n network, b []byte) {
	b[2], b[3] = 0, 0
	binary.BigEndian.PutUint16(b[2:], uint16(65535-n.sum(b)))
}

// plainBytes are those of a message, written apart from the program.
func plainBytes(n network, m api.Icmp) []byte {
	b := binary.BigEndian.AppendUint32([]byte{m.Type, m.Code, 0, 0}, m.Rest)
	b = append(b, m.Body...)
	setSum(n, b)
	return b
}

// like holds two against each other apart from the program; nil and empty are alike.
func like(a, b api.Icmp) bool {
	a.Body, b.Body = append([]byte{}, a.Body...), append([]byte{}, b.Body...)
	return reflect.DeepEqual(a, b)
}

func zero(m api.Icmp) bool { return reflect.DeepEqual(m, api.Icmp{}) }

// P7.1 to P7.4: errors, kinds and the protocol have the numbers that the chapter names.
func TestNumbers(t *testing.T) {
	got := []int{
		int(api.ErrLong), int(api.ErrShortIcmp), int(api.ErrSumIcmp), int(api.ErrNoError), api.MaxPacket, api.ProtoICMP6,
		int(api.IcmpOther), int(api.IcmpAsk), int(api.IcmpAnswer), int(api.IcmpUnreach), int(api.IcmpBig), int(api.IcmpTime), int(api.IcmpParam),
	}
	if want := []int{2, 70, 71, 72, 65535, 58, 0, 1, 2, 3, 4, 5, 6}; !reflect.DeepEqual(got, want) {
		t.Errorf("%d", got)
	}
}

// P7.1: the chapter's example, and messages whose bytes are written out.
func TestWriteExamples(t *testing.T) {
	src, dst := api.Addr6{0x20, 1, 0xd, 0xb8, 15: 1}, api.Addr6{0x20, 1, 0xd, 0xb8, 15: 2}
	for _, c := range []struct {
		m         api.Icmp
		four, six []byte
	}{
		{api.Icmp{Type: 8, Rest: 0x10002},
			[]byte{8, 0, 0xf7, 0xfc, 0, 1, 0, 2}, []byte{8, 0, 0x9c, 0x45, 0, 1, 0, 2}},
		{api.Icmp{Type: 1, Code: 2, Rest: 0x05060708, Body: []byte{9, 10, 11}},
			[]byte{1, 2, 0xde, 0xe5, 5, 6, 7, 8, 9, 10, 11}, []byte{1, 2, 0x83, 0x2b, 5, 6, 7, 8, 9, 10, 11}},
	} {
		if b, e := icmp.Write4(c.m); !bytes.Equal(b, c.four) || e != api.OK {
			t.Errorf("over IPv4: % x, %d", b, e)
		}
		if b, e := icmp.Write6(src, dst, c.m); !bytes.Equal(b, c.six) || e != api.OK {
			t.Errorf("over IPv6: % x, %d", b, e)
		}
	}
}

// testWrite holds Write against the bytes of a message that may be, and Parse of them against it.
func testWrite(t *testing.T, n network, m api.Icmp) {
	t.Helper()
	b, e := n.write(m)
	if !bytes.Equal(b, plainBytes(n, m)) || e != api.OK {
		t.Fatalf("%s, Type %d, Code %d, Rest %x, %d of Body: % x, %d", n.name, m.Type, m.Code, m.Rest, len(m.Body), b[:min(len(b), 50)], e)
	}
	v, e := n.parse(b)
	if !like(v, m) || !icmp.Same(v, m) || e != api.OK {
		t.Fatalf("%s: % x: Type %d, Code %d, Rest %x, %d of Body, %d", n.name, b[:min(len(b), 50)], v.Type, v.Code, v.Rest, len(v.Body), e)
	}
}

// P7.1, P7.2, P7.6: every Type with every Code, and back.
func TestTypes(t *testing.T) {
	r := dice()
	for _, n := range networks(r) {
		for i := range 1 << 16 {
			testWrite(t, n, api.Icmp{Type: uint8(i >> 8), Code: uint8(i), Rest: r.Uint32(), Body: []byte("abc")[:i%4]})
		}
	}
}

// P7.1, P7.2, P7.6: each bit of Rest, none and all of them, and back.
func TestRests(t *testing.T) {
	for _, n := range networks(dice()) {
		testWrite(t, n, api.Icmp{Type: 8})
		testWrite(t, n, api.Icmp{Type: 8, Rest: 0xffffffff})
		for bit := range 32 {
			testWrite(t, n, api.Icmp{Type: 8, Rest: 1 << bit})
			testWrite(t, n, api.Icmp{Type: 8, Rest: ^(uint32(1) << bit), Body: []byte{1}})
		}
	}
}

// P7.1, P7.2, P7.6: random messages, and back; odd numbers of bytes are among them.
func TestThereAndBack(t *testing.T) {
	r := dice()
	for range 20000 {
		for _, n := range networks(r) {
			testWrite(t, n, someMessage(r))
		}
	}
	for _, n := range networks(r) {
		testWrite(t, n, api.Icmp{})
		testWrite(t, n, api.Icmp{Body: []byte{}})
		for size := range 600 {
			testWrite(t, n, api.Icmp{Type: 3, Body: someBytes(r, size)})
			testWrite(t, n, api.Icmp{Body: make([]byte, size)})
			testWrite(t, n, api.Icmp{Type: 255, Code: 255, Rest: 0xffffffff, Body: bytes.Repeat([]byte{255}, size)})
		}
	}
}

// P7.1, P7.2, P7.6: a message of just MaxPacket bytes, and of one less.
func TestMostBytes(t *testing.T) {
	r := dice()
	for _, n := range networks(r) {
		for _, size := range []int{65534, 65535} {
			testWrite(t, n, api.Icmp{Type: 128, Code: 1, Rest: 9, Body: someBytes(r, size-8)})
			testWrite(t, n, api.Icmp{Body: make([]byte, size-8)})
			testWrite(t, n, api.Icmp{Type: 255, Code: 255, Rest: 0xffffffff, Body: bytes.Repeat([]byte{255}, size-8)})
		}
	}
}

// P7.1 and rule 2: a message of more than MaxPacket bytes.
func TestWriteLong(t *testing.T) {
	for _, n := range networks(dice()) {
		for _, size := range []int{65536, 65537, 65543, 65544, 65536 + 8, 65536 + 16, 1 << 17, 1<<17 + 8, 1 << 20} {
			if b, e := n.write(api.Icmp{Type: 8, Body: make([]byte, size-8)}); b != nil || e != api.ErrLong {
				t.Errorf("%s, %d bytes: %d bytes, %d", n.name, size, len(b), e)
			}
		}
	}
}

// P7.1, P7.2: a checksum that comes out as 0 is written as 0; read, 65535 says the same in its place.
func TestChecksumZero(t *testing.T) {
	r := dice()
	for range 2000 {
		for _, n := range networks(r) {
			m := someMessage(r)
			m.Rest &= 0xffff
			// With the checksum as the identifier, which was 0, the sum of all words is 65535.
			m.Rest |= uint32(binary.BigEndian.Uint16(plainBytes(n, m)[2:])) << 16
			b, e := n.write(m)
			if e != api.OK || b[2] != 0 || b[3] != 0 {
				t.Fatalf("%s: %+v: % x, %d", n.name, m, b, e)
			}
			for range 2 {
				if v, e := n.parse(b); !like(v, m) || e != api.OK {
					t.Fatalf("%s: % x: %+v, %d", n.name, b, v, e)
				}
				b[2], b[3] = 255, 255
			}
		}
	}
}

// P7.1, P7.2: a checksum of 65535 is that of nothing but zeros, over IPv4; there a 0 does not say the same.
func TestChecksumMost(t *testing.T) {
	for size := 8; size < 40; size++ {
		want := make([]byte, size)
		want[2], want[3] = 255, 255
		b, e := icmp.Write4(api.Icmp{Body: make([]byte, size-8)})
		if !bytes.Equal(b, want) || e != api.OK {
			t.Errorf("% x, %d", b, e)
		}
		if m, e := icmp.Parse4(b); !like(m, api.Icmp{Body: make([]byte, size-8)}) || e != api.OK {
			t.Errorf("% x: %+v, %d", b, m, e)
		}
		if m, e := icmp.Parse4(make([]byte, size)); !zero(m) || e != api.ErrSumIcmp {
			t.Errorf("%d bytes 0: %+v, %d", size, m, e)
		}
	}
}

// P7.1: over IPv6 the checksum is never 65535, for the pseudo header's sum is not 0.
func TestChecksumNone(t *testing.T) {
	b, e := icmp.Write6(api.Addr6{}, api.Addr6{}, api.Icmp{})
	if want := []byte{0, 0, 255, 255 - 58 - 8, 0, 0, 0, 0}; !bytes.Equal(b, want) || e != api.OK {
		t.Errorf("% x, %d", b, e)
	}
}

// P7.5: each field, each byte.
func TestSame(t *testing.T) {
	made := func() api.Icmp { return api.Icmp{Type: 1, Code: 2, Rest: 3, Body: []byte{4, 5, 6}} }
	for i, change := range []func(*api.Icmp){
		func(m *api.Icmp) { m.Type = 2 },
		func(m *api.Icmp) { m.Code = 1 },
		func(m *api.Icmp) { m.Type, m.Code = m.Code, m.Type },
		func(m *api.Icmp) { m.Rest = 4 },
		func(m *api.Icmp) { m.Rest |= 1 << 31 },
		func(m *api.Icmp) { m.Body[0] = 0 },
		func(m *api.Icmp) { m.Body[2] = 7 },
		func(m *api.Icmp) { m.Body = m.Body[:2] },
		func(m *api.Icmp) { m.Body = append(m.Body, 0) },
		func(m *api.Icmp) { m.Body = nil },
		func(m *api.Icmp) { *m = api.Icmp{} },
	} {
		a, b := made(), made()
		change(&b)
		if icmp.Same(a, b) || icmp.Same(b, a) || !icmp.Same(b, b) {
			t.Errorf("%d: %+v", i, b)
		}
	}
	if !icmp.Same(made(), made()) {
		t.Error("like fields are not the same")
	}
	empty := api.Icmp{Body: []byte{}}
	if !icmp.Same(api.Icmp{}, empty) || !icmp.Same(empty, api.Icmp{}) {
		t.Error("nil and empty are not alike")
	}
	long := make([]byte, 70000)
	other := bytes.Clone(long)
	other[69999] = 1
	if icmp.Same(api.Icmp{Body: long}, api.Icmp{Body: other}) || !icmp.Same(api.Icmp{Body: long}, api.Icmp{Body: bytes.Clone(long)}) {
		t.Error("long Bodies")
	}
}

// P7.5: random messages, of which most bytes are alike, against reflect's answer.
func TestSameRandom(t *testing.T) {
	r := dice()
	some := func() api.Icmp {
		return api.Icmp{Type: uint8(r.IntN(2)), Code: uint8(r.IntN(2)), Rest: uint32(r.IntN(2)) << 30, Body: make([]byte, r.IntN(2))}
	}
	for range 5000 {
		if a, b := some(), some(); icmp.Same(a, b) != like(a, b) {
			t.Fatalf("%+v, %+v: %t", a, b, icmp.Same(a, b))
		}
	}
}

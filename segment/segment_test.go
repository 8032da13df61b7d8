package segment_test

import (
	"bytes"
	"encoding/binary"
	"math/rand/v2"
	"reflect"
	"testing"

	"ferryman/api"
	"ferryman/segment"
)

func dice() *rand.Rand { return rand.New(rand.NewPCG(6, 10)) }

func someBytes(r *rand.Rand, n int) []byte {
	b := make([]byte, n)
	for i := range b {
		b[i] = byte(r.Uint32())
	}
	return b
}

func someUDP(r *rand.Rand) api.UDP {
	return api.UDP{Src: uint16(r.Uint32()), Dst: uint16(r.Uint32()), Data: someBytes(r, r.IntN(40))}
}

// someTCP is a segment that may be.
func someTCP(r *rand.Rand) api.TCP {
	return api.TCP{
		Src: uint16(r.Uint32()), Dst: uint16(r.Uint32()), Seq: r.Uint32(), Ack: r.Uint32(), Flags: uint8(r.IntN(64)),
		Window: uint16(r.Uint32()), Urgent: uint16(r.Uint32()),
		Options: someBytes(r, 4*r.IntN(11)), Data: someBytes(r, r.IntN(40)),
	}
}

// network is one of the two kinds of addresses between which segments go, and the calls of that kind.
type network struct {
	name     string
	src, dst []byte
	six      bool
}

func (n network) ends4() (api.Addr4, api.Addr4) { return api.Addr4(n.src), api.Addr4(n.dst) }

func (n network) ends6() (api.Addr6, api.Addr6) { return api.Addr6(n.src), api.Addr6(n.dst) }

func (n network) writeUDP(u api.UDP) ([]byte, api.Errno) {
	if n.six {
		src, dst := n.ends6()
		return segment.WriteUDP6(src, dst, u)
	}
	src, dst := n.ends4()
	return segment.WriteUDP4(src, dst, u)
}

func (n network) writeTCP(s api.TCP) ([]byte, api.Errno) {
	if n.six {
		src, dst := n.ends6()
		return segment.WriteTCP6(src, dst, s)
	}
	src, dst := n.ends4()
	return segment.WriteTCP4(src, dst, s)
}

func (n network) parseUDP(b []byte) (api.UDP, bool, api.Errno) {
	if n.six {
		src, dst := n.ends6()
		u, e := segment.ParseUDP6(src, dst, b)
		return u, false, e
	}
	src, dst := n.ends4()
	return segment.ParseUDP4(src, dst, b)
}

func (n network) parseTCP(b []byte) (api.TCP, api.Errno) {
	if n.six {
		src, dst := n.ends6()
		return segment.ParseTCP6(src, dst, b)
	}
	src, dst := n.ends4()
	return segment.ParseTCP4(src, dst, b)
}

// pseudo is a pseudo header, written apart from the program.
func (n network) pseudo(proto byte, length int) []byte {
	b := append(bytes.Clone(n.src), n.dst...)
	if n.six {
		b = binary.BigEndian.AppendUint32(b, uint32(length))
		return append(b, 0, 0, 0, proto)
	}
	b = append(b, 0, proto)
	return binary.BigEndian.AppendUint16(b, uint16(length))
}

// ends are both addresses, one behind the other.
func (n network) ends() []byte { return append(bytes.Clone(n.src), n.dst...) }

func someNetwork(r *rand.Rand, six bool) network {
	if six {
		return network{"IPv6", someBytes(r, 16), someBytes(r, 16), true}
	}
	return network{"IPv4", someBytes(r, 4), someBytes(r, 4), false}
}

// networks are one of each kind.
func networks(r *rand.Rand) []network {
	return []network{someNetwork(r, false), someNetwork(r, true)}
}

// plainSum is the sum of bytes' words, written apart from the program: a number without bound, folded at the end.
func plainSum(b []byte) int {
	n := 0
	for i, x := range b {
		if i%2 == 0 {
			n += 256 * int(x)
		} else {
			n += int(x)
		}
	}
	for n > 65535 {
		n = n%65536 + n/65536
	}
	return n
}

// setSum gives bytes a right checksum at a place, as the chapter says it.
func setSum(n network, proto byte, b []byte) {
	at := 16
	if proto == api.ProtoUDP {
		at = 6
	}
	binary.BigEndian.PutUint16(b[at:], 0)
	check := 65535 - plainSum(append(n.pseudo(proto, len(b)), b...))
	if check == 0 && proto == api.ProtoUDP {
		check = 65535
	}
	binary.BigEndian.PutUint16(b[at:], uint16(check))
}

// plainUDP are the bytes of a datagram that may be, written apart from the program.
func plainUDP(n network, u api.UDP) []byte {
	b := binary.BigEndian.AppendUint16(nil, u.Src)
	b = binary.BigEndian.AppendUint16(b, u.Dst)
	b = binary.BigEndian.AppendUint16(b, uint16(8+len(u.Data)))
	b = append(append(b, 0, 0), u.Data...)
	setSum(n, 17, b)
	return b
}

// plainTCP are the bytes of a segment that may be, written apart from the program.
func plainTCP(n network, s api.TCP) []byte {
	b := binary.BigEndian.AppendUint16(nil, s.Src)
	b = binary.BigEndian.AppendUint16(b, s.Dst)
	b = binary.BigEndian.AppendUint32(b, s.Seq)
	b = binary.BigEndian.AppendUint32(b, s.Ack)
	b = append(b, byte(16*(5+len(s.Options)/4)), s.Flags)
	b = binary.BigEndian.AppendUint16(b, s.Window)
	b = append(b, 0, 0)
	b = binary.BigEndian.AppendUint16(b, s.Urgent)
	b = append(append(b, s.Options...), s.Data...)
	setSum(n, 6, b)
	return b
}

// likeUDP and likeTCP hold two against each other apart from the program; nil and empty are alike.
func likeUDP(a, b api.UDP) bool {
	a.Data, b.Data = append([]byte{}, a.Data...), append([]byte{}, b.Data...)
	return reflect.DeepEqual(a, b)
}

func likeTCP(a, b api.TCP) bool {
	a.Options, a.Data = append([]byte{}, a.Options...), append([]byte{}, a.Data...)
	b.Options, b.Data = append([]byte{}, b.Options...), append([]byte{}, b.Data...)
	return reflect.DeepEqual(a, b)
}

func zeroUDP(u api.UDP) bool { return reflect.DeepEqual(u, api.UDP{}) }

func zeroTCP(s api.TCP) bool { return reflect.DeepEqual(s, api.TCP{}) }

// P6.1 to P6.6: errors, flags and protocols have the numbers that the chapter names.
func TestNumbers(t *testing.T) {
	got := []int{
		int(api.ErrLong), int(api.ErrWords), int(api.ErrShortSeg), int(api.ErrLengthSeg), int(api.ErrSumSeg), int(api.ErrSeg), int(api.ErrProto),
		api.FlagFIN, api.FlagSYN, api.FlagRST, api.FlagPSH, api.FlagACK, api.FlagURG, api.ProtoTCP, api.ProtoUDP, api.MaxPacket,
	}
	if want := []int{2, 10, 60, 61, 62, 63, 64, 1, 2, 4, 8, 16, 32, 6, 17, 65535}; !reflect.DeepEqual(got, want) {
		t.Errorf("%d", got)
	}
}

// P6.1: the chapter's example, and segments whose bytes are written out.
func TestWriteExamples(t *testing.T) {
	a, b := api.Addr4{10, 0, 0, 1}, api.Addr4{10, 0, 0, 2}
	got, e := segment.WriteUDP4(a, b, api.UDP{Src: 53, Dst: 1024})
	if want := []byte{0, 0x35, 4, 0, 0, 8, 0xe7, 0xa6}; !bytes.Equal(got, want) || e != api.OK {
		t.Errorf("% x, %d", got, e)
	}
	s := api.TCP{Src: 0x0102, Dst: 0x0304, Seq: 0x05060708, Ack: 0x090a0b0c, Flags: 0x2d, Window: 0x0e0f, Urgent: 0x1011, Options: []byte{1, 1, 1, 0}, Data: []byte{0xff}}
	got, e = segment.WriteTCP4(a, b, s)
	want := []byte{1, 2, 3, 4, 5, 6, 7, 8, 9, 10, 11, 12, 0x60, 0x2d, 14, 15, 0x48, 0x64, 16, 17, 1, 1, 1, 0, 0xff}
	if !bytes.Equal(got, want) || e != api.OK {
		t.Errorf("% x, %d", got, e)
	}
}

// testWriteUDP and testWriteTCP hold Write against the error that one has, or against its bytes, over both networks.
func testWriteUDP(t *testing.T, u api.UDP, want api.Errno) {
	t.Helper()
	for _, n := range networks(dice()) {
		b, e := n.writeUDP(u)
		if want != api.OK && (b != nil || e != want) {
			t.Errorf("%s, %d of Data: %d bytes, %d, want %d", n.name, len(u.Data), len(b), e, want)
		}
		if want == api.OK && (!bytes.Equal(b, plainUDP(n, u)) || e != api.OK) {
			t.Errorf("%s, %d of Data: %d bytes, %d", n.name, len(u.Data), len(b), e)
		}
	}
}

func testWriteTCP(t *testing.T, s api.TCP, want api.Errno) {
	t.Helper()
	for _, n := range networks(dice()) {
		b, e := n.writeTCP(s)
		if want != api.OK && (b != nil || e != want) {
			t.Errorf("%s, Flags %d, %d of Options, %d of Data: %d bytes, %d, want %d", n.name, s.Flags, len(s.Options), len(s.Data), len(b), e, want)
		}
		if want == api.OK && (!bytes.Equal(b, plainTCP(n, s)) || e != api.OK) {
			t.Errorf("%s, Flags %d, %d of Options, %d of Data: % x, %d", n.name, s.Flags, len(s.Options), len(s.Data), b[:20], e)
		}
	}
}

// P6.1: a UDP datagram of just MaxPacket bytes, and of more.
func TestWriteUDPLength(t *testing.T) {
	r := dice()
	for _, n := range []int{0, 1, 2, 3, 247, 248, 249, 65525, 65526, 65527} {
		testWriteUDP(t, api.UDP{Src: 7, Dst: 0xffff, Data: someBytes(r, n)}, api.OK)
	}
	for _, n := range []int{65528, 65529, 65535, 65536, 65536 + 8, 1 << 17, 1 << 20} {
		testWriteUDP(t, api.UDP{Data: make([]byte, n)}, api.ErrLong)
	}
	testWriteUDP(t, api.UDP{Data: nil}, api.OK)
	testWriteUDP(t, api.UDP{Data: []byte{}}, api.OK)
}

// P6.1: each number of Flags.
func TestWriteFlags(t *testing.T) {
	for f := range 256 {
		want := api.OK
		if f >= 64 {
			want = api.ErrSeg
		}
		testWriteTCP(t, api.TCP{Flags: uint8(f), Window: 9}, want)
		testWriteTCP(t, api.TCP{Flags: uint8(f), Options: make([]byte, 41)}, api.ErrSeg)
		testWriteTCP(t, api.TCP{Flags: uint8(f), Options: make([]byte, 40), Data: []byte{5}}, want)
	}
}

// P6.1: how many bytes of Options.
func TestWriteOptionsLength(t *testing.T) {
	r := dice()
	for n := range 100 {
		want := api.OK
		if n%4 != 0 || n > 40 {
			want = api.ErrSeg
		}
		testWriteTCP(t, api.TCP{Seq: 5, Options: someBytes(r, n)}, want)
		testWriteTCP(t, api.TCP{Flags: 63, Options: someBytes(r, n), Data: someBytes(r, 7)}, want)
	}
	for _, n := range []int{256, 260, 65512, 65516, 65535, 65536, 65540, 1 << 20} {
		testWriteTCP(t, api.TCP{Options: make([]byte, n)}, api.ErrSeg)
	}
	testWriteTCP(t, api.TCP{Options: []byte{}, Data: []byte{}}, api.OK)
}

// P6.1: a segment of just MaxPacket bytes, and of more; ErrSeg is told ahead of ErrLong.
func TestWriteTCPLength(t *testing.T) {
	r := dice()
	for n := 0; n <= 40; n += 4 {
		o := someBytes(r, n)
		most := 65535 - 20 - n
		testWriteTCP(t, api.TCP{Options: o, Data: someBytes(r, most-1)}, api.OK)
		testWriteTCP(t, api.TCP{Options: o, Data: someBytes(r, most)}, api.OK)
		for _, more := range []int{1, 2, 4, 20, 65536, 1 << 20} {
			long := make([]byte, most+more)
			testWriteTCP(t, api.TCP{Options: o, Data: long}, api.ErrLong)
			testWriteTCP(t, api.TCP{Options: o, Flags: 64, Data: long}, api.ErrSeg)
			testWriteTCP(t, api.TCP{Options: append(o[:n:n], 1), Data: long}, api.ErrSeg)
		}
	}
	testWriteTCP(t, api.TCP{Options: make([]byte, 44), Data: make([]byte, 65536)}, api.ErrSeg)
}

// P6.1, P6.2, P6.3: a checksum that comes out as 0: of UDP 65535 is written, of TCP 0.
func TestChecksumZero(t *testing.T) {
	r := dice()
	for range 300 {
		for _, n := range networks(r) {
			u := someUDP(r)
			u.Dst = 0
			// With the checksum as Dst, which was 0, the sum of all words is 65535.
			u.Dst = binary.BigEndian.Uint16(plainUDP(n, u)[6:])
			b, e := n.writeUDP(u)
			if e != api.OK || b[6] != 255 || b[7] != 255 {
				t.Fatalf("%s: %+v: % x, %d", n.name, u, b, e)
			}
			if v, none, e := n.parseUDP(b); !likeUDP(u, v) || none || e != api.OK {
				t.Fatalf("%s: % x: %+v, %t, %d", n.name, b, v, none, e)
			}
			s := someTCP(r)
			s.Urgent = 0
			s.Urgent = binary.BigEndian.Uint16(plainTCP(n, s)[16:])
			b, e = n.writeTCP(s)
			if e != api.OK || b[16] != 0 || b[17] != 0 {
				t.Fatalf("%s: %+v: % x, %d", n.name, s, b, e)
			}
			for range 2 {
				if v, e := n.parseTCP(b); !likeTCP(s, v) || e != api.OK {
					t.Fatalf("%s: % x: %+v, %d", n.name, b, v, e)
				}
				b[16], b[17] = 255, 255 // the same number in ones' complement
			}
		}
	}
}

// P6.1: checksums next to those that stand for none; one that comes out as 65535 there is not, for the pseudo header's sum is not 0.
func TestChecksumBesideZero(t *testing.T) {
	zero4, zero6 := api.Addr4{}, api.Addr6{}
	seen := map[uint16]bool{}
	for port := range 1 << 16 {
		b, e := segment.WriteUDP4(zero4, zero4, api.UDP{Src: uint16(port)})
		c, f := segment.WriteUDP6(zero6, zero6, api.UDP{Dst: uint16(port)})
		if e != api.OK || f != api.OK || len(b) != 8 || len(c) != 8 || !bytes.Equal(b[4:], c[4:]) {
			t.Fatalf("port %d: % x, %d; % x, %d", port, b, e, c, f)
		}
		sum := port + 17 + 8 + 8
		if sum > 65535 {
			sum -= 65535
		}
		want := uint16(65535 - sum)
		if want == 0 {
			want = 65535
		}
		got := binary.BigEndian.Uint16(b[6:])
		if got != want || got == 0 {
			t.Fatalf("port %d: checksum %d, want %d", port, got, want)
		}
		seen[got] = true
	}
	if !seen[1] || !seen[65534] || !seen[65535] || seen[0] {
		t.Errorf("1: %t, 65534: %t, 65535: %t, 0: %t", seen[1], seen[65534], seen[65535], seen[0])
	}
}

// P6.1, P6.8: what is written is read again as the same, and its bytes are the chapter's.
func TestThereAndBack(t *testing.T) {
	r := dice()
	for range 3000 {
		for _, n := range networks(r) {
			u := someUDP(r)
			b, e := n.writeUDP(u)
			if !bytes.Equal(b, plainUDP(n, u)) || e != api.OK {
				t.Fatalf("%s: %+v: % x, %d", n.name, u, b, e)
			}
			if v, none, e := n.parseUDP(b); !likeUDP(u, v) || none || e != api.OK {
				t.Fatalf("%s: % x: %+v, %t, %d", n.name, b, v, none, e)
			}
			s := someTCP(r)
			b, e = n.writeTCP(s)
			if !bytes.Equal(b, plainTCP(n, s)) || e != api.OK {
				t.Fatalf("%s: %+v: % x, %d", n.name, s, b, e)
			}
			if v, e := n.parseTCP(b); !likeTCP(s, v) || e != api.OK {
				t.Fatalf("%s: % x: %+v, %d", n.name, b, v, e)
			}
		}
	}
}

// P6.8: the longest ones there and back.
func TestThereAndBackLong(t *testing.T) {
	r := dice()
	for _, n := range networks(r) {
		u := api.UDP{Src: 1, Dst: 2, Data: someBytes(r, 65527)}
		b, _ := n.writeUDP(u)
		if v, none, e := n.parseUDP(b); !likeUDP(u, v) || none || e != api.OK {
			t.Errorf("%s: UDP of %d bytes: %d", n.name, len(b), e)
		}
		s := api.TCP{Src: 1, Flags: 63, Options: someBytes(r, 40), Data: someBytes(r, 65475)}
		b, _ = n.writeTCP(s)
		if v, e := n.parseTCP(b); !likeTCP(s, v) || e != api.OK {
			t.Errorf("%s: TCP of %d bytes: %d", n.name, len(b), e)
		}
	}
}

// P6.7: each field of UDP alone makes a difference.
func TestSameUDP(t *testing.T) {
	a := api.UDP{Src: 1, Dst: 2, Data: []byte{3, 4}}
	for i, b := range []api.UDP{
		{Src: 2, Dst: 2, Data: []byte{3, 4}},
		{Src: 257, Dst: 2, Data: []byte{3, 4}},
		{Src: 1, Dst: 1, Data: []byte{3, 4}},
		{Src: 1, Dst: 2, Data: []byte{3, 5}},
		{Src: 1, Dst: 2, Data: []byte{3}},
		{Src: 1, Dst: 2, Data: []byte{3, 4, 0}},
		{Src: 1, Dst: 2},
		{Src: 2, Dst: 1, Data: []byte{3, 4}},
		{},
	} {
		if segment.SameUDP(a, b) || segment.SameUDP(b, a) || !segment.SameUDP(b, b) {
			t.Errorf("%d: %+v", i, b)
		}
	}
	if !segment.SameUDP(a, api.UDP{Src: 1, Dst: 2, Data: []byte{3, 4}}) {
		t.Error("like fields are not the same")
	}
	if !segment.SameUDP(api.UDP{}, api.UDP{Data: []byte{}}) || !segment.SameUDP(api.UDP{Data: []byte{}}, api.UDP{}) {
		t.Error("nil and empty are not alike")
	}
}

// P6.7: each field of TCP alone makes a difference, also of segments that may not be.
func TestSameTCP(t *testing.T) {
	made := func() api.TCP {
		return api.TCP{Src: 1, Dst: 2, Seq: 3, Ack: 4, Flags: 5, Window: 6, Urgent: 7, Options: []byte{8, 9, 10}, Data: []byte{11, 12}}
	}
	for i, change := range []func(*api.TCP){
		func(s *api.TCP) { s.Src = 2 },
		func(s *api.TCP) { s.Src += 256 },
		func(s *api.TCP) { s.Dst = 1 },
		func(s *api.TCP) { s.Src, s.Dst = 2, 1 },
		func(s *api.TCP) { s.Seq = 4 },
		func(s *api.TCP) { s.Seq += 1 << 31 },
		func(s *api.TCP) { s.Ack = 3 },
		func(s *api.TCP) { s.Ack += 1 << 16 },
		func(s *api.TCP) { s.Seq, s.Ack = 4, 3 },
		func(s *api.TCP) { s.Flags = 4 },
		func(s *api.TCP) { s.Flags += 128 },
		func(s *api.TCP) { s.Window = 7 },
		func(s *api.TCP) { s.Urgent = 6 },
		func(s *api.TCP) { s.Options[2] = 0 },
		func(s *api.TCP) { s.Options = s.Options[:2] },
		func(s *api.TCP) { s.Options = append(s.Options, 0) },
		func(s *api.TCP) { s.Options = nil },
		func(s *api.TCP) { s.Data[0] = 12 },
		func(s *api.TCP) { s.Data = s.Data[:1] },
		func(s *api.TCP) { s.Data = append(s.Data, 0) },
		func(s *api.TCP) { s.Data = nil },
		func(s *api.TCP) { s.Options, s.Data = s.Data, s.Options },
		func(s *api.TCP) { *s = api.TCP{} },
	} {
		a, b := made(), made()
		change(&b)
		if segment.SameTCP(a, b) || segment.SameTCP(b, a) || !segment.SameTCP(b, b) {
			t.Errorf("%d: %+v", i, b)
		}
	}
	if !segment.SameTCP(made(), made()) {
		t.Error("like fields are not the same")
	}
	empty := api.TCP{Options: []byte{}, Data: []byte{}}
	if !segment.SameTCP(api.TCP{}, empty) || !segment.SameTCP(empty, api.TCP{}) {
		t.Error("nil and empty are not alike")
	}
}

package tofour_test

import (
	"bytes"
	"encoding/hex"
	"fmt"
	"math/rand/v2"
	"reflect"
	"testing"

	"ferryman/api"
	"ferryman/tofour"
)

func dice() *rand.Rand { return rand.New(rand.NewPCG(18, 4)) }

func someBytes(r *rand.Rand, n int) []byte {
	b := make([]byte, n)
	for i := range b {
		b[i] = byte(r.Uint32())
	}
	return b
}

func someEnds(r *rand.Rand) api.Ends4 {
	return api.Ends4{Src: api.Addr4(someBytes(r, 4)), Dst: api.Addr4(someBytes(r, 4))}
}

// The ends with which the tests call where they do not matter: of a packet, and of one of which it tells.
var (
	outer = api.Ends4{Src: api.Addr4{192, 0, 2, 33}, Dst: api.Addr4{198, 51, 100, 7}}
	inner = api.Ends4{Src: api.Addr4{203, 0, 113, 5}, Dst: api.Addr4{10, 0, 0, 2}}
)

// number is bytes as a number, the greatest first.
func number(b []byte) int {
	n := 0
	for _, x := range b {
		n = 256*n + int(x)
	}
	return n
}

// setNumber is a copy of bytes with a number in two of them.
func setNumber(b []byte, at, n int) []byte {
	b = append([]byte{}, b...)
	b[at], b[at+1] = byte(n/256), byte(n%256)
	return b
}

// plainSum is the sum of bytes' words, written apart from the program: a number without bound, folded at the end.
func plainSum(b []byte) int {
	n := 0
	for i, x := range b {
		if i%2 == 0 {
			n += 256 * int(x)
		} else {
			n += int(x)
		}
	}
	for n > 65535 {
		n = n%65536 + n/65536
	}
	return n
}

// plainUpdate is sum.Update, written apart from the program.
func plainUpdate(was int, from, to []byte) int {
	words := setNumber(make([]byte, 2), 0, 65535-was)
	for _, x := range from {
		words = append(words, 255-x)
	}
	return 65535 - plainSum(append(words, to...))
}

// plainCarried is a checksum carried over.
func plainCarried(check int, from api.Ends6, to api.Ends4, udp bool) int {
	was := fmt.Sprintf("%x%x", from.Src, from.Dst)
	now := fmt.Sprintf("%x%x%048x", to.Src, to.Dst, 0)
	if n := plainUpdate(check, unhex(was), unhex(now)); n > 0 || !udp {
		return n
	}
	return 65535
}

func unhex(s string) []byte {
	b, e := hex.DecodeString(s)
	if e != nil {
		panic(s)
	}
	return b
}

// pseudo6 is a pseudo header over IPv6, written apart from the program.
func pseudo6(ends api.Ends6, proto, length int) []byte {
	return unhex(fmt.Sprintf("%x%x%08x%08x", ends.Src, ends.Dst, length, proto))
}

// pseudo4 is a pseudo header over IPv4, written apart from the program.
func pseudo4(ends api.Ends4, proto, length int) []byte {
	return unhex(fmt.Sprintf("%x%x%04x%04x", ends.Src, ends.Dst, proto, length))
}

// isOne tells whether a byte is one of some.
func isOne(x byte, of ...byte) bool { return bytes.IndexByte(of, x) >= 0 }

// strange tells whether a protocol has no meaning on the other side.
func strange(proto byte) bool { return isOne(proto, 0, 1, 43, 44, 60) }

// plainCheck is ipv6.Check, written apart from the program.
func plainCheck(v api.V6) int {
	size := len(v.Body)
	if v.Label > 0xfffff || len(v.Heads) > 8 {
		return 54
	}
	for i, h := range v.Heads {
		n := len(h.Body) + 2
		if n < 8 || n > 2048 || n%8 > 0 || !isOne(h.Kind, 0, 43, 60) || h.Kind == 0 && i > 0 {
			return 54
		}
		size += n
	}
	switch {
	case v.Frag && (v.Off < 0 || v.Off > 8191):
		return 54
	case v.Frag:
		size += 8
	case v.Off != 0 || v.More || v.ID != 0 || isOne(v.Proto, 0, 43, 44, 60):
		return 54
	}
	if size > 65535 {
		return 2
	}
	return 0
}

// plainPacket is what Packet asks for, written apart from the program.
func plainPacket(v api.V6, outer, inner api.Ends4) (api.V4, int) {
	if e := plainCheck(v); e != 0 {
		return api.V4{}, e
	}
	for _, h := range v.Heads {
		if h.Kind == 43 && h.Body[1] > 0 {
			return api.V4{}, 170
		}
	}
	if strange(v.Proto) {
		return api.V4{}, 171
	}
	// Without a fragment header a datagram that may be has ID and Off 0.
	w := api.V4{TOS: v.Class, ID: uint16(v.ID % 65536), DF: !v.Frag, MF: v.More, Off: v.Off, TTL: v.Hop, Proto: v.Proto, Src: outer.Src, Dst: outer.Dst}
	e := 0
	switch {
	case v.Proto == 58:
		w.Proto = 1
		w.Body, e = plainMessageBody(v, inner)
	case v.Off == 0:
		w.Body, e = plainBody(v, outer)
	default:
		w.Body = v.Body
	}
	if e == 0 && len(w.Body) > 65515 {
		e = 2
	}
	if e != 0 {
		return api.V4{}, e
	}
	return w, 0
}

func plainBody(v api.V6, ends api.Ends4) ([]byte, int) {
	b, from := v.Body, api.Ends6{Src: v.Src, Dst: v.Dst}
	switch {
	case v.Proto == 6 && len(b) < 20 || v.Proto == 17 && len(b) < 8:
		return nil, 173
	case v.Proto == 6:
		return setNumber(b, 16, plainCarried(number(b[16:18]), from, ends, false)), 0
	case v.Proto == 17 && number(b[6:8]) == 0:
		return nil, 172
	case v.Proto == 17:
		return setNumber(b, 6, plainCarried(number(b[6:8]), from, ends, true)), 0
	}
	return b, 0
}

func plainMessageBody(v api.V6, inner api.Ends4) ([]byte, int) {
	b := v.Body
	switch {
	case v.More || v.Off > 0:
		return nil, 174
	case len(b) < 8:
		return nil, 70
	case plainSum(append(pseudo6(api.Ends6{Src: v.Src, Dst: v.Dst}, 58, len(b)), b...)) != 65535:
		return nil, 71
	}
	m, e := plainMessage(api.Icmp{Type: b[0], Code: b[1], Rest: uint32(number(b[4:8])), Body: b[8:]}, inner)
	if e != 0 {
		return nil, e
	}
	out := append(unhex(fmt.Sprintf("%02x%02x0000%08x", m.Type, m.Code, m.Rest)), m.Body...)
	return setNumber(out, 2, 65535-plainSum(out)), 0
}

// plainPointers holds for each place in an IPv6 header the one in an IPv4 header, as a letter: o is 12, x is 16; a dot: there is none.
const plainPointers = "01..2298" + "oooooooooooooooo" + "xxxxxxxxxxxxxxxx"

func plainPointer(n int) int {
	if n >= len(plainPointers) {
		return -1
	}
	switch c := plainPointers[n]; c {
	case '.':
		return -1
	case 'o':
		return 12
	case 'x':
		return 16
	default:
		return int(c - '0')
	}
}

func plainMTU(n int) int {
	switch n -= 20; {
	case n < 68:
		return 68
	case n > 65535:
		return 65535
	}
	return n
}

// plainTypes is the chapter's table as a text: Type/Code of ICMPv6, Type/Code/Rest of ICMP. A star is any code, and the same; M is MTU, P is Pointer.
const plainTypes = `128/* 8/*/same 129/* 0/*/same
1/0 3/1/0 1/2 3/1/0 1/3 3/1/0
1/1 3/10/0
1/4 3/3/0
2/0 3/4/M
3/* 11/*/0
4/0 12/0/P
4/1 3/2/0`

// plainTable reads that text.
func plainTable() map[string]string {
	f := bytes.Fields([]byte(plainTypes))
	table := map[string]string{}
	for i := 0; i < len(f); i += 2 {
		table[string(f[i])] = string(f[i+1])
	}
	return table
}

var types = plainTable()

// plainMessage is what Message asks for, written apart from the program.
func plainMessage(m api.Icmp, ends api.Ends4) (api.Icmp, int) {
	to, is := types[fmt.Sprintf("%d/%d", m.Type, m.Code)]
	if !is {
		to, is = types[fmt.Sprintf("%d/*", m.Type)]
	}
	if !is {
		return api.Icmp{}, 175
	}
	parts := bytes.Split([]byte(to), []byte("/"))
	w := api.Icmp{Code: m.Code}
	fmt.Sscan(string(parts[0]), &w.Type)
	if parts[1][0] != '*' {
		fmt.Sscan(string(parts[1]), &w.Code)
	}
	switch string(parts[2]) {
	case "same":
		w.Rest = m.Rest
	case "M":
		w.Rest = uint32(plainMTU(int(m.Rest)))
	case "P":
		at := plainPointer(int(m.Rest))
		if at < 0 {
			return api.Icmp{}, 175
		}
		w.Rest = uint32(256 * 65536 * at)
	}
	if len(m.Body) > 65527 {
		return api.Icmp{}, 2
	}
	w.Body = m.Body
	if m.Type > 127 {
		return w, 0
	}
	b, e := plainInside(m.Body, ends)
	if e != 0 {
		return api.Icmp{}, e
	}
	w.Body = b[:min(len(b), 548)]
	return w, 0
}

// part is a packet of which some may be cut off, as the plain way reads it.
type part struct {
	ends       api.Ends6
	routed     bool
	frag, more bool
	id, off    int
	proto      byte
	body       []byte
	size       int // how many bytes of body there were
}

// plainPart is ipv6.Part, written apart from the program.
func plainPart(b []byte) (p part, ok bool) {
	if len(b) < 40 || b[0]/16 != 6 || number(b[4:6]) < len(b)-40 {
		return p, false
	}
	p.ends = api.Ends6{Src: api.Addr6(b[8:24]), Dst: api.Addr6(b[24:40])}
	p.size, p.proto, p.body = number(b[4:6]), b[6], b[40:]
	for heads := 0; isOne(p.proto, 0, 43, 44, 60) && !p.frag; heads++ {
		size := 8
		if len(p.body) > 1 && p.proto != 44 {
			size += 8 * int(p.body[1])
		}
		if len(p.body) < size || p.proto != 44 && heads == 8 || p.proto == 0 && heads > 0 {
			return p, false
		}
		switch word := number(p.body[2:4]); p.proto {
		case 43:
			p.routed = p.routed || word%256 > 0
		case 44:
			p.frag, p.more, p.off, p.id = true, word%2 > 0, word/8, number(p.body[4:8])
		}
		p.proto, p.body, p.size = p.body[0], p.body[size:], p.size-size
	}
	return p, true
}

// plainInside is what Inside asks for, written apart from the program.
func plainInside(b []byte, ends api.Ends4) ([]byte, int) {
	p, ok := plainPart(b)
	switch {
	case !ok || p.off == 0 && p.proto == 58 && len(p.body) > 0 && p.body[0] != 128 && p.body[0] != 129:
		return nil, 176
	case p.routed:
		return nil, 170
	case strange(p.proto):
		return nil, 171
	}
	proto, word := p.proto, 0x4000
	if proto == 58 {
		proto = 1
	}
	if p.frag {
		word = p.off
		if p.more {
			word += 0x2000
		}
	}
	out := unhex(fmt.Sprintf("45%02x%04x%04x%04x%02x%02x0000%x%x", number(b[:2])/16%256, min(20+p.size, 65535), p.id%65536, word, b[7], proto, ends.Src, ends.Dst))
	out = setNumber(out, 10, 65535-plainSum(out))
	if p.off == 0 {
		return append(out, plainRest(p, ends)...), 0
	}
	return append(out, p.body...), 0
}

func plainRest(p part, to api.Ends4) []byte {
	b := p.body
	switch {
	case p.proto == 6 && len(b) >= 18:
		return setNumber(b, 16, plainCarried(number(b[16:18]), p.ends, to, false))
	case p.proto == 17 && len(b) >= 8 && number(b[6:8]) != 0:
		return setNumber(b, 6, plainCarried(number(b[6:8]), p.ends, to, true))
	case p.proto == 58 && len(b) >= 4:
		kind := 0
		if b[0] == 128 {
			kind = 8
		}
		was := unhex(fmt.Sprintf("%02x%02x%x%x0000%04x003a", b[0], b[1], p.ends.Src, p.ends.Dst, p.size))
		now := unhex(fmt.Sprintf("%02x%02x%076x", kind, b[1], 0))
		b = setNumber(b, 2, plainUpdate(number(b[2:4]), was, now))
		b[0] = byte(kind)
	}
	return b
}

// plainTells is what Tells asks for, written apart from the program.
func plainTells(v api.V6) (api.Ends6, bool, int) {
	if e := plainCheck(v); e != 0 {
		return api.Ends6{}, false, e
	}
	b := v.Body
	if v.More || v.Off != 0 || v.Proto != 58 || len(b) < 8 || b[0] < 1 || b[0] > 4 {
		return api.Ends6{}, false, 0
	}
	if plainSum(append(pseudo6(api.Ends6{Src: v.Src, Dst: v.Dst}, 58, len(b)), b...)) != 65535 {
		return api.Ends6{}, false, 0
	}
	p, ok := plainPart(b[8:])
	if !ok {
		return api.Ends6{}, false, 0
	}
	return p.ends, true, 0
}

// like holds two answers against each other apart from the program; nil and empty are alike.
func like(a, b api.V4) bool {
	if len(a.Options) != len(b.Options) || !bytes.Equal(a.Body, b.Body) {
		return false
	}
	a.Options, a.Body, b.Options, b.Body = nil, nil, nil, nil
	return reflect.DeepEqual(a, b)
}

func likeMessage(a, b api.Icmp) bool {
	return a.Type == b.Type && a.Code == b.Code && a.Rest == b.Rest && bytes.Equal(a.Body, b.Body)
}

// cut is the first bytes of many, for a failing test.
func cut(b []byte) string {
	if len(b) <= 100 {
		return fmt.Sprintf("%x", b)
	}
	return fmt.Sprintf("%x.. (%d)", b[:100], len(b))
}

func show4(v api.V4) string {
	b := v.Body
	v.Body = nil
	return fmt.Sprintf("%+v %s", v, cut(b))
}

func show6(v api.V6) string {
	b := v.Body
	v.Body = nil
	return fmt.Sprintf("%.300s %s", fmt.Sprintf("%+v", v), cut(b))
}

func showMessage(m api.Icmp) string {
	return fmt.Sprintf("%d/%d, Rest %x, %s", m.Type, m.Code, m.Rest, cut(m.Body))
}

// holdPacket holds Packet against the plain way, and tells its answer.
func holdPacket(t *testing.T, v api.V6, outer, inner api.Ends4) (api.V4, api.Errno) {
	t.Helper()
	want, wantE := plainPacket(v, outer, inner)
	w, e := tofour.Packet(v, outer, inner)
	if int(e) != wantE || !like(w, want) {
		t.Fatalf("%s: Packet =\n%s, %d; want\n%s, %d", show6(v), show4(w), e, show4(want), wantE)
	}
	return w, e
}

// holdMessage holds Message against the plain way, and tells its answer.
func holdMessage(t *testing.T, m api.Icmp, ends api.Ends4) (api.Icmp, api.Errno) {
	t.Helper()
	want, wantE := plainMessage(m, ends)
	w, e := tofour.Message(m, ends)
	if int(e) != wantE || !likeMessage(w, want) {
		t.Fatalf("%s: Message =\n%s, %d; want\n%s, %d", showMessage(m), showMessage(w), e, showMessage(want), wantE)
	}
	return w, e
}

// holdInside holds Inside against the plain way, and tells its answer.
func holdInside(t *testing.T, b []byte, ends api.Ends4) ([]byte, api.Errno) {
	t.Helper()
	want, wantE := plainInside(b, ends)
	w, e := tofour.Inside(b, ends)
	if int(e) != wantE || !bytes.Equal(w, want) {
		t.Fatalf("%s: Inside =\n%s, %d; want\n%s, %d", cut(b), cut(w), e, cut(want), wantE)
	}
	return w, e
}

// holdTells holds Tells against the plain way, and tells its answer.
func holdTells(t *testing.T, v api.V6) (api.Ends6, bool, api.Errno) {
	t.Helper()
	want, wantIs, wantE := plainTells(v)
	ends, is, e := tofour.Tells(v)
	if int(e) != wantE || is != wantIs || ends != want {
		t.Fatalf("%s: Tells = %v, %t, %d; want %v, %t, %d", show6(v), ends, is, e, want, wantIs, wantE)
	}
	return ends, is, e
}

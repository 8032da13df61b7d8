package tosix_test

import (
	"bytes"
	"encoding/hex"
	"fmt"
	"math/rand/v2"
	"reflect"
	"testing"

	"ferryman/api"
	"ferryman/tosix"
)

func dice() *rand.Rand { return rand.New(rand.NewPCG(17, 6)) }

func someBytes(r *rand.Rand, n int) []byte {
	b := make([]byte, n)
	for i := range b {
		b[i] = byte(r.Uint32())
	}
	return b
}

func someEnds(r *rand.Rand) api.Ends6 {
	return api.Ends6{Src: api.Addr6(someBytes(r, 16)), Dst: api.Addr6(someBytes(r, 16))}
}

// The ends with which the tests call where they do not matter: of a packet, and of one of which it tells.
var (
	outer = api.Ends6{Src: api.Addr6{0, 0x64, 0xff, 0x9b, 12: 192, 13: 0, 14: 2, 15: 33}, Dst: api.Addr6{0x20, 1, 0xd, 0xb8, 15: 200}}
	inner = api.Ends6{Src: api.Addr6{0x20, 1, 0xd, 0xb8, 7: 9, 15: 1}, Dst: api.Addr6{0xfe, 0x80, 8: 0xff, 15: 77}}
)

// number is bytes as a number, the greatest first.
func number(b []byte) int {
	n := 0
	for _, x := range b {
		n = 256*n + int(x)
	}
	return n
}

// setNumber is a copy of bytes with a number in two of them.
func setNumber(b []byte, at, n int) []byte {
	b = append([]byte{}, b...)
	b[at], b[at+1] = byte(n/256), byte(n%256)
	return b
}

// plainSum is the sum of bytes' words, written apart from the program: a number without bound, folded at the end.
func plainSum(b []byte) int {
	n := 0
	for i, x := range b {
		if i%2 == 0 {
			n += 256 * int(x)
		} else {
			n += int(x)
		}
	}
	for n > 65535 {
		n = n%65536 + n/65536
	}
	return n
}

// plainUpdate is sum.Update, written apart from the program.
func plainUpdate(was int, from, to []byte) int {
	words := setNumber(make([]byte, 2), 0, 65535-was)
	for _, x := range from {
		words = append(words, 255-x)
	}
	return 65535 - plainSum(append(words, to...))
}

// plainCarried is a checksum carried over.
func plainCarried(check int, from api.Ends4, to api.Ends6, udp bool) int {
	was := fmt.Sprintf("%x%x%048x", from.Src, from.Dst, 0)
	now := fmt.Sprintf("%x%x", to.Src, to.Dst)
	if n := plainUpdate(check, unhex(was), unhex(now)); n > 0 || !udp {
		return n
	}
	return 65535
}

func unhex(s string) []byte {
	b, e := hex.DecodeString(s)
	if e != nil {
		panic(s)
	}
	return b
}

// pseudo6 is a pseudo header over IPv6, written apart from the program.
func pseudo6(ends api.Ends6, proto, length int) []byte {
	return unhex(fmt.Sprintf("%x%x%08x%08x", ends.Src, ends.Dst, length, proto))
}

// pseudo4 is a pseudo header over IPv4, written apart from the program.
func pseudo4(ends api.Ends4, proto, length int) []byte {
	return unhex(fmt.Sprintf("%x%x%04x%04x", ends.Src, ends.Dst, proto, length))
}

// strange tells whether a protocol has no meaning on the other side.
func strange(proto byte) bool { return bytes.IndexByte([]byte{0, 43, 44, 58, 60}, proto) >= 0 }

// plainRouted tells whether options have a source route that is not at its end.
func plainRouted(o []byte) bool {
	for len(o) > 0 && o[0] != 0 {
		if o[0] == 1 {
			o = o[1:]
			continue
		}
		if len(o) < 2 || o[1] < 2 || int(o[1]) > len(o) {
			return false
		}
		if (o[0] == 131 || o[0] == 137) && o[1] > 2 && o[2] <= o[1] {
			return true
		}
		o = o[o[1]:]
	}
	return false
}

func plainCheck(v api.V4) int {
	switch {
	case v.Off < 0 || v.Off > 8191 || len(v.Options) > 40 || len(v.Options)&3 != 0:
		return 45
	case 20+len(v.Options)+len(v.Body) > 65535:
		return 2
	}
	return 0
}

// plainPacket is what Packet asks for, written apart from the program.
func plainPacket(v api.V4, outer, inner api.Ends6) (api.V6, int) {
	e := plainCheck(v)
	if e == 0 && plainRouted(v.Options) {
		e = 170
	}
	if e == 0 && strange(v.Proto) {
		e = 171
	}
	if e != 0 {
		return api.V6{}, e
	}
	w := api.V6{Class: v.TOS, Hop: v.TTL, Src: outer.Src, Dst: outer.Dst, Proto: v.Proto}
	if v.MF || v.Off != 0 {
		w.Frag, w.ID, w.Off, w.More = true, uint32(v.ID), v.Off, v.MF
	}
	switch {
	case v.Proto == 1:
		w.Proto = 58
		w.Body, e = plainMessageBody(v, outer, inner)
	case v.Off == 0:
		w.Body, e = plainBody(v, outer)
	default:
		w.Body = v.Body
	}
	if e != 0 {
		return api.V6{}, e
	}
	return w, 0
}

func plainBody(v api.V4, ends api.Ends6) ([]byte, int) {
	b, from := v.Body, api.Ends4{Src: v.Src, Dst: v.Dst}
	if v.Proto == 6 {
		if len(b) < 20 {
			return nil, 173
		}
		return setNumber(b, 16, plainCarried(number(b[16:18]), from, ends, false)), 0
	}
	if v.Proto != 17 {
		return b, 0
	}
	if len(b) < 8 {
		return nil, 173
	}
	if check := number(b[6:8]); check != 0 {
		return setNumber(b, 6, plainCarried(check, from, ends, true)), 0
	}
	if v.MF {
		return nil, 172
	}
	if number(b[4:6]) != len(b) {
		return nil, 173
	}
	check := 65535 - plainSum(append(pseudo6(ends, 17, len(b)), b...))
	if check == 0 {
		check = 65535
	}
	return setNumber(b, 6, check), 0
}

func plainMessageBody(v api.V4, outer, inner api.Ends6) ([]byte, int) {
	b := v.Body
	switch {
	case v.MF || v.Off > 0:
		return nil, 174
	case len(b) < 8:
		return nil, 70
	case plainSum(b) != 65535:
		return nil, 71
	}
	m, e := plainMessage(api.Icmp{Type: b[0], Code: b[1], Rest: uint32(number(b[4:8])), Body: b[8:]}, inner)
	if e != 0 {
		return nil, e
	}
	out := append(unhex(fmt.Sprintf("%02x%02x0000%08x", m.Type, m.Code, m.Rest)), m.Body...)
	return setNumber(out, 2, 65535-plainSum(append(pseudo6(outer, 58, len(out)), out...))), 0
}

// plainPointers holds for each place in an IPv4 header the one in an IPv6 header; -1: there is none.
var plainPointers = []int{0, 1, 4, 4, -1, -1, -1, -1, 7, 6, -1, -1, 8, 8, 8, 8, 24, 24, 24, 24}

func plainPointer(n int) int {
	if n < len(plainPointers) {
		return plainPointers[n]
	}
	return -1
}

func plainMTU(n int) int {
	if n == 0 || n+20 < 1280 {
		return 1280
	}
	return n + 20
}

// plainTypes is the chapter's table as a text: Type/Code of ICMP, Type/Code/Rest of ICMPv6. A star is any code, and the same; M is MTU, P is Pointer.
const plainTypes = `8/* 128/*/same 0/* 129/*/same
3/0 1/0/0 3/1 1/0/0 3/5 1/0/0 3/6 1/0/0 3/7 1/0/0 3/8 1/0/0 3/11 1/0/0 3/12 1/0/0
3/9 1/1/0 3/10 1/1/0 3/13 1/1/0 3/15 1/1/0
3/3 1/4/0
3/2 4/1/6
3/4 2/0/M
11/* 3/*/0
12/0 4/0/P 12/2 4/0/P`

// plainTable reads that text.
func plainTable() map[string]string {
	f := bytes.Fields([]byte(plainTypes))
	table := map[string]string{}
	for i := 0; i < len(f); i += 2 {
		table[string(f[i])] = string(f[i+1])
	}
	return table
}

var types = plainTable()

// plainMessage is what Message asks for, written apart from the program.
func plainMessage(m api.Icmp, ends api.Ends6) (api.Icmp, int) {
	to, is := types[fmt.Sprintf("%d/%d", m.Type, m.Code)]
	if !is {
		to, is = types[fmt.Sprintf("%d/*", m.Type)]
	}
	if !is {
		return api.Icmp{}, 175
	}
	parts := bytes.Split([]byte(to), []byte("/"))
	w := api.Icmp{Code: m.Code}
	fmt.Sscan(string(parts[0]), &w.Type)
	if parts[1][0] != '*' {
		fmt.Sscan(string(parts[1]), &w.Code)
	}
	switch string(parts[2]) {
	case "same":
		w.Rest = m.Rest
	case "M":
		w.Rest = uint32(plainMTU(int(m.Rest % 65536)))
	case "P":
		at := plainPointer(int(m.Rest / 65536 / 256))
		if at < 0 {
			return api.Icmp{}, 175
		}
		w.Rest = uint32(at)
	default:
		fmt.Sscan(string(parts[2]), &w.Rest)
	}
	if len(m.Body) > 65527 {
		return api.Icmp{}, 2
	}
	w.Body = m.Body
	if m.Type == 8 || m.Type == 0 {
		return w, 0
	}
	b, e := plainInside(m.Body, ends)
	if e != 0 {
		return api.Icmp{}, e
	}
	w.Body = b[:min(len(b), 1232)]
	return w, 0
}

// plainInside is what Inside asks for, written apart from the program.
func plainInside(b []byte, ends api.Ends6) ([]byte, int) {
	if len(b) < 20 || b[0]/16 != 4 {
		return nil, 176
	}
	head, all := 4*int(b[0]%16), number(b[2:4])
	if head < 20 || head > len(b) || all < len(b) {
		return nil, 176
	}
	off, more, proto, rest := number(b[6:8])%8192, b[6]/32%2, int(b[9]), b[head:]
	if off == 0 && proto == 1 && len(rest) > 0 && rest[0] != 0 && rest[0] != 8 {
		return nil, 176
	}
	if strange(byte(proto)) {
		return nil, 171
	}
	next, behind, fragHead := proto, all-head, ""
	if proto == 1 {
		next = 58
	}
	if off > 0 || more > 0 {
		fragHead = fmt.Sprintf("%02x00%04x%08x", next, 8*off+int(more), number(b[4:6]))
		next, behind = 44, behind+8
	}
	out := unhex(fmt.Sprintf("6%02x00000%04x%02x%02x%x%x%s", b[1], min(behind, 65535), next, b[8], ends.Src, ends.Dst, fragHead))
	if off == 0 {
		rest = plainRest(rest, proto, all-head, api.Ends4{Src: api.Addr4(b[12:16]), Dst: api.Addr4(b[16:20])}, ends)
	}
	return append(out, rest...), 0
}

func plainRest(b []byte, proto, length int, from api.Ends4, to api.Ends6) []byte {
	switch {
	case proto == 6 && len(b) >= 18:
		return setNumber(b, 16, plainCarried(number(b[16:18]), from, to, false))
	case proto == 17 && len(b) >= 8 && number(b[6:8]) != 0:
		return setNumber(b, 6, plainCarried(number(b[6:8]), from, to, true))
	case proto == 1 && len(b) >= 4:
		kind := 129
		if b[0] == 8 {
			kind = 128
		}
		was := unhex(fmt.Sprintf("%02x%02x%076x", b[0], b[1], 0))
		now := unhex(fmt.Sprintf("%02x%02x%x%x0000%04x003a", kind, b[1], to.Src, to.Dst, length))
		b = setNumber(b, 2, plainUpdate(number(b[2:4]), was, now))
		b[0] = byte(kind)
	}
	return b
}

// plainTells is what Tells asks for, written apart from the program.
func plainTells(v api.V4) (api.Ends4, bool, int) {
	if e := plainCheck(v); e != 0 {
		return api.Ends4{}, false, e
	}
	b := v.Body
	if v.MF || v.Off != 0 || v.Proto != 1 || len(b) < 28 || plainSum(b) != 65535 || bytes.IndexByte([]byte{3, 11, 12}, b[0]) < 0 {
		return api.Ends4{}, false, 0
	}
	p := b[8:]
	head := 4 * int(p[0]%16)
	if p[0]/16 != 4 || head < 20 || head > len(p) || number(p[2:4]) < len(p) {
		return api.Ends4{}, false, 0
	}
	return api.Ends4{Src: api.Addr4(p[12:16]), Dst: api.Addr4(p[16:20])}, true, 0
}

// like holds two answers against each other apart from the program; nil and empty are alike.
func like(a, b api.V6) bool {
	if len(a.Heads) != len(b.Heads) || !bytes.Equal(a.Body, b.Body) {
		return false
	}
	a.Heads, a.Body, b.Heads, b.Body = nil, nil, nil, nil
	return reflect.DeepEqual(a, b)
}

func likeMessage(a, b api.Icmp) bool {
	return a.Type == b.Type && a.Code == b.Code && a.Rest == b.Rest && bytes.Equal(a.Body, b.Body)
}

// cut is the first bytes of many, for a failing test.
func cut(b []byte) string {
	if len(b) <= 100 {
		return fmt.Sprintf("%x", b)
	}
	return fmt.Sprintf("%x.. (%d)", b[:100], len(b))
}

func show4(v api.V4) string {
	b := v.Body
	v.Body = nil
	return fmt.Sprintf("%+v %s", v, cut(b))
}

func show6(v api.V6) string {
	b := v.Body
	v.Body = nil
	return fmt.Sprintf("%+v %s", v, cut(b))
}

func showMessage(m api.Icmp) string {
	return fmt.Sprintf("%d/%d, Rest %x, %s", m.Type, m.Code, m.Rest, cut(m.Body))
}

// holdPacket holds Packet against the plain way, and tells its answer.
func holdPacket(t *testing.T, v api.V4, outer, inner api.Ends6) (api.V6, api.Errno) {
	t.Helper()
	want, wantE := plainPacket(v, outer, inner)
	w, e := tosix.Packet(v, outer, inner)
	if int(e) != wantE || !like(w, want) {
		t.Fatalf("%s: Packet =\n%s, %d; want\n%s, %d", show4(v), show6(w), e, show6(want), wantE)
	}
	return w, e
}

// holdMessage holds Message against the plain way, and tells its answer.
func holdMessage(t *testing.T, m api.Icmp, ends api.Ends6) (api.Icmp, api.Errno) {
	t.Helper()
	want, wantE := plainMessage(m, ends)
	w, e := tosix.Message(m, ends)
	if int(e) != wantE || !likeMessage(w, want) {
		t.Fatalf("%s: Message =\n%s, %d; want\n%s, %d", showMessage(m), showMessage(w), e, showMessage(want), wantE)
	}
	return w, e
}

// holdInside holds Inside against the plain way, and tells its answer.
func holdInside(t *testing.T, b []byte, ends api.Ends6) ([]byte, api.Errno) {
	t.Helper()
	want, wantE := plainInside(b, ends)
	w, e := tosix.Inside(b, ends)
	if int(e) != wantE || !bytes.Equal(w, want) {
		t.Fatalf("%s: Inside =\n%s, %d; want\n%s, %d", cut(b), cut(w), e, cut(want), wantE)
	}
	return w, e
}

// holdTells holds Tells against the plain way, and tells its answer.
func holdTells(t *testing.T, v api.V4) (api.Ends4, bool, api.Errno) {
	t.Helper()
	want, wantIs, wantE := plainTells(v)
	ends, is, e := tosix.Tells(v)
	if int(e) != wantE || is != wantIs || ends != want {
		t.Fatalf("%s: Tells = %v, %t, %d; want %v, %t, %d", show4(v), ends, is, e, want, wantIs, wantE)
	}
	return ends, is, e
}

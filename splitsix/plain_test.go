package splitsix_test

import (
	"bytes"
	"fmt"
	"math"
	"math/rand/v2"
	"reflect"
	"strings"
	"testing"

	"ferryman/api"
	"ferryman/splitsix"
)

func dice() *rand.Rand { return rand.New(rand.NewPCG(14, 6)) }

func someBytes(r *rand.Rand, n int) []byte {
	b := make([]byte, n)
	for i := range b {
		b[i] = byte(r.Uint32())
	}
	return b
}

// someHeads are heads of n bytes together: a multiple of 8, at most 8 times 2048.
func someHeads(r *rand.Rand, n int) []api.Head {
	eights := n / 8
	if eights == 0 {
		return nil
	}
	least := (eights + 255) / 256
	units := make([]int, least+r.IntN(min(8, eights)-least+1))
	for i := range units {
		units[i]++
		eights--
	}
	for i := 0; eights > 0; i = (i + 1) % len(units) {
		more := min(eights, 1+r.IntN(256), 256-units[i])
		units[i] += more
		eights -= more
	}
	l := make([]api.Head, len(units))
	for i, u := range units {
		kinds := []byte{43, 60, 0}
		l[i] = api.Head{Kind: kinds[r.IntN(3-min(i, 1))], Body: someBytes(r, 8*u-2)}
	}
	return l
}

// someV6 is a datagram that may be, without a fragment header, with so many bytes of Heads and of Body.
func someV6(r *rand.Rand, heads, body int) api.V6 {
	v := api.V6{
		Class: byte(r.Uint32()), Label: r.Uint32N(1 << 20), Hop: byte(r.Uint32()),
		Heads: someHeads(r, heads), Proto: []byte{6, 17, 58, 59, 255, 1}[r.IntN(6)], Body: someBytes(r, body),
	}
	copy(v.Src[:], someBytes(r, 16))
	copy(v.Dst[:], someBytes(r, 16))
	return v
}

// fragment is a datagram with a fragment header.
func fragment(v api.V6, id uint32, off int, more bool) api.V6 {
	v.Frag, v.ID, v.Off, v.More = true, id, off, more
	return v
}

// farMTUs are MTUs that may not be.
var farMTUs = []int{1279, 65536, 0, 1, 8, 40, 48, 68, -1, -8, -1280, -65535, 65537, 65536 + 1280, 131071, 1 << 32, 1<<32 + 1500, math.MinInt, math.MinInt + 48, math.MaxInt, math.MaxInt - 48}

// plainHeads is how many bytes the heads of a datagram's fragments have.
func plainHeads(v api.V6) int {
	n := 48
	for _, h := range v.Heads {
		n += 2 + len(h.Body)
	}
	return n
}

// plainSize is how many bytes a datagram has.
func plainSize(v api.V6) int {
	n := plainHeads(v) + len(v.Body)
	if !v.Frag {
		n -= 8
	}
	return n
}

// plainCheck is the error of a datagram that may not be, written apart from the program.
func plainCheck(v api.V6) api.Errno {
	wrong := v.Label >= 1<<20 || len(v.Heads) > 8
	for i, h := range v.Heads {
		switch h.Kind {
		case 43, 60:
		case 0:
			wrong = wrong || i > 0
		default:
			wrong = true
		}
		wrong = wrong || len(h.Body)&7 != 6 || len(h.Body) > 2046
	}
	if v.Frag {
		wrong = wrong || v.Off < 0 || v.Off > 8191
	} else {
		wrong = wrong || v.ID != 0 || v.Off != 0 || v.More || bytes.IndexByte([]byte{0, 43, 44, 60}, v.Proto) >= 0
	}
	switch {
	case wrong:
		return api.Errno(54)
	case plainSize(v)-40 > 65535:
		return api.Errno(2)
	}
	return api.OK
}

// plainSplit is what Split asks for, written apart from the program: it tries two, three fragments and so on, till what is left fits the last one.
func plainSplit(v api.V6, mtu int, id uint32) ([]api.V6, api.Errno) {
	if e := plainCheck(v); e != api.OK {
		return nil, e
	}
	if mtu < 1280 || mtu > 65535 {
		return nil, api.Errno(131)
	}
	if plainSize(v) <= mtu {
		return []api.V6{v}, api.OK
	}
	if v.More && len(v.Body)&7 != 0 {
		return nil, api.Errno(1)
	}
	room := 0
	for plainHeads(v)+room+8 <= mtu {
		room += 8
	}
	if room == 0 {
		return nil, api.Errno(141)
	}
	n := 2
	for plainHeads(v)+len(v.Body)-(n-1)*room > mtu {
		n++
	}
	if 8*v.Off+(n-1)*room > 8*8191 {
		return nil, api.Errno(5)
	}
	if v.Frag {
		id = v.ID
	}
	out := make([]api.V6, n)
	for i := range out {
		to, more := (i+1)*room, true
		if i == n-1 {
			to, more = len(v.Body), v.More
		}
		out[i] = fragment(v, id, (8*v.Off+i*room)/8, more)
		out[i].Body = v.Body[i*room : to]
	}
	return out, api.OK
}

// plainAtomic is what Atomic asks for, written apart from the program.
func plainAtomic(v api.V6, id uint32) (api.V6, api.Errno) {
	e := plainCheck(v)
	if e == api.OK && v.Frag {
		e = api.Errno(140)
	}
	if e == api.OK && plainHeads(v)+len(v.Body) > 65535+40 {
		e = api.Errno(2)
	}
	if e != api.OK {
		return api.V6{}, e
	}
	return fragment(v, id, 0, false), api.OK
}

// plainBare is what Bare asks for, written apart from the program.
func plainBare(v api.V6) (api.V6, api.Errno) {
	e := plainCheck(v)
	if e == api.OK && v.Frag && (v.More || v.Off > 0) {
		e = api.Errno(140)
	}
	if e == api.OK && v.Frag && (v.Proto == 0 || v.Proto == 43 || v.Proto == 44 || v.Proto == 60) {
		e = api.Errno(54)
	}
	if e != api.OK {
		return api.V6{}, e
	}
	v.Frag, v.ID = false, 0
	return v, api.OK
}

// like holds two datagrams against each other apart from the program; nil and empty are alike.
func like(a, b api.V6) bool {
	if len(a.Heads) != len(b.Heads) || !bytes.Equal(a.Body, b.Body) {
		return false
	}
	for i, h := range a.Heads {
		if h.Kind != b.Heads[i].Kind || !bytes.Equal(h.Body, b.Heads[i].Body) {
			return false
		}
	}
	a.Heads, a.Body, b.Heads, b.Body = nil, nil, nil, nil
	return reflect.DeepEqual(a, b)
}

func allLike(a, b []api.V6) bool {
	if len(a) != len(b) {
		return false
	}
	for i := range a {
		if !like(a[i], b[i]) {
			return false
		}
	}
	return true
}

// show tells a datagram for a failing test, without its bytes.
func show(v api.V6) string {
	heads := ""
	for _, h := range v.Heads[:min(len(v.Heads), 10)] {
		heads += fmt.Sprintf(" %d:%d", h.Kind, len(h.Body))
	}
	frag := "no Frag"
	if v.Frag || v.ID != 0 || v.Off != 0 || v.More {
		frag = fmt.Sprintf("Frag %t, ID %d, Off %d, More %t", v.Frag, v.ID, v.Off, v.More)
	}
	return fmt.Sprintf("Heads (%d)%s, %s, Proto %d, Body %d", len(v.Heads), heads, frag, v.Proto, len(v.Body))
}

// shape tells fragments in short: Off and bytes of Body, and a plus where More is set; of one without Frag its bytes of Body alone.
func shape(l []api.V6) string {
	var s []string
	for _, f := range l[:min(len(l), 40)] {
		one := fmt.Sprint(len(f.Body))
		if f.Frag {
			one = fmt.Sprintf("%d:%s", f.Off, one)
		}
		if f.More {
			one += "+"
		}
		s = append(s, one)
	}
	return strings.Join(s, " ")
}

// hold holds Split, Count and Fits against the plain way, and tells Split's answer.
func hold(t *testing.T, v api.V6, mtu int, id uint32) ([]api.V6, api.Errno) {
	t.Helper()
	want, wantE := plainSplit(v, mtu, id)
	l, e := splitsix.Split(v, mtu, id)
	if e != wantE || !allLike(l, want) {
		t.Fatalf("%s, MTU %d: Split = %s, %d; want %s, %d", show(v), mtu, shape(l), e, shape(want), wantE)
	}
	if n, e := splitsix.Count(v, mtu); n != len(want) || e != wantE {
		t.Fatalf("%s, MTU %d: Count = %d, %d; want %d, %d", show(v), mtu, n, e, len(want), wantE)
	}
	fits, fitsE := len(want) == 1, wantE
	if plainCheck(v) == api.OK && mtu >= 1280 && mtu <= 65535 {
		fitsE = api.OK
	}
	if ok, e := splitsix.Fits(v, mtu); ok != fits || e != fitsE {
		t.Fatalf("%s, MTU %d: Fits = %t, %d; want %t, %d", show(v), mtu, ok, e, fits, fitsE)
	}
	return l, e
}

// holdHeads holds Atomic and Bare against the plain way.
func holdHeads(t *testing.T, v api.V6, id uint32) {
	t.Helper()
	want, wantE := plainAtomic(v, id)
	if a, e := splitsix.Atomic(v, id); e != wantE || !like(a, want) {
		t.Fatalf("%s: Atomic = %s, %d; want %s, %d", show(v), show(a), e, show(want), wantE)
	}
	want, wantE = plainBare(v)
	if b, e := splitsix.Bare(v); e != wantE || !like(b, want) {
		t.Fatalf("%s: Bare = %s, %d; want %s, %d", show(v), show(b), e, show(want), wantE)
	}
}

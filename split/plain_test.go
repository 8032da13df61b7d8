package split_test

import (
	"bytes"
	"math"
	"math/rand/v2"
	"reflect"
	"testing"

	"ferryman/api"
	"ferryman/split"
)

func dice() *rand.Rand { return rand.New(rand.NewPCG(13, 5)) }

func someBytes(r *rand.Rand, n int) []byte {
	b := make([]byte, n)
	for i := range b {
		b[i] = byte(r.Uint32())
	}
	return b
}

// someOptions is n bytes that hold options of all kinds, now and then such as end too early.
func someOptions(r *rand.Rand, n int) []byte {
	b := []byte{}
	for len(b) < n {
		switch r.IntN(12) {
		case 0:
			b = append(b, byte(r.Uint32()))
		case 1:
			b = append(b, byte(r.Uint32()), byte(r.IntN(6)))
		case 2, 3:
			b = append(b, 1)
		default:
			data := someBytes(r, r.IntN(7))
			b = append(append(b, byte(r.Uint32()), byte(2+len(data))), data...)
		}
	}
	return b[:n]
}

// someV4 is a datagram that may be, with so many bytes of Options and Body.
func someV4(r *rand.Rand, options, body int) api.V4 {
	v := api.V4{
		TOS: byte(r.Uint32()), ID: uint16(r.Uint32()), MF: r.IntN(2) == 0, Off: r.IntN(8192),
		TTL: byte(r.Uint32()), Proto: byte(r.Uint32()),
		Options: someOptions(r, options), Body: someBytes(r, body),
	}
	copy(v.Src[:], someBytes(r, 4))
	copy(v.Dst[:], someBytes(r, 4))
	return v
}

// farMTUs are MTUs that may not be.
var farMTUs = []int{67, 65536, 0, 1, 20, 60, -1, -68, -1500, 65537, 65536 + 68, 131071, 1 << 32, 1<<32 + 1500, math.MinInt, math.MinInt + 20, math.MaxInt, math.MaxInt - 20}

// plainCopied is what is copied of options, written apart from the program: by places, what is copied put into words of four bytes.
func plainCopied(b []byte) []byte {
	var words [][4]byte
	n := 0
	for at := 0; at < len(b) && b[at] != 0; {
		end := at + 1
		if b[at] != 1 {
			if at+1 >= len(b) || b[at+1] == 0 || b[at+1] == 1 || at+int(b[at+1]) > len(b) {
				break
			}
			end = at + int(b[at+1])
		}
		for _, x := range b[at:end] {
			if b[at]&0x80 == 0 {
				continue
			}
			if n%4 == 0 {
				words = append(words, [4]byte{})
			}
			words[n/4][n%4] = x
			n++
		}
		at = end
	}
	out := []byte{}
	for _, w := range words {
		out = append(out, w[:]...)
	}
	return out
}

// plainRoom counts up to the greatest multiple of 8 that a fragment with so many bytes of options has room for.
func plainRoom(mtu, options int) int {
	room := 0
	for 20+options+room+8 <= mtu {
		room += 8
	}
	return room
}

// plainSplit is what Split asks for, written apart from the program: it tries one, two, three fragments and so on, till what is left fits the last one.
func plainSplit(v api.V4, mtu int) ([]api.V4, api.Errno) {
	if e := plainCheck(v); e != api.OK {
		return nil, e
	}
	if mtu < 68 || mtu > 65535 {
		return nil, api.Errno(131)
	}
	if 20+len(v.Options)+len(v.Body) <= mtu {
		return []api.V4{v}, api.OK
	}
	if v.DF {
		return nil, api.Errno(130)
	}
	if v.MF && len(v.Body)&7 != 0 {
		return nil, api.Errno(1)
	}
	copied := plainCopied(v.Options)
	first, later := plainRoom(mtu, len(v.Options)), plainRoom(mtu, len(copied))
	n := 2
	for 20+len(copied)+len(v.Body)-first-(n-2)*later > mtu {
		n++
	}
	if 8*v.Off+first+(n-2)*later > 8*8191 {
		return nil, api.Errno(5)
	}
	out := make([]api.V4, n)
	for i := range out {
		from, to := first+(i-1)*later, first+i*later
		f := v
		f.Options, f.MF = copied, true
		if i == 0 {
			from, f.Options = 0, v.Options
		}
		if i == n-1 {
			to, f.MF = len(v.Body), v.MF
		}
		f.Off, f.Body = (8*v.Off+from)/8, v.Body[from:to]
		out[i] = f
	}
	return out, api.OK
}

// plainCheck is the error of a datagram that may not be, written apart from the program.
func plainCheck(v api.V4) api.Errno {
	switch n := len(v.Options); {
	case v.Off < 0 || v.Off > 8191 || n > 40 || n&3 != 0:
		return api.Errno(45)
	case 20+n+len(v.Body) > 65535:
		return api.Errno(2)
	}
	return api.OK
}

// like holds two datagrams against each other apart from the program; nil and empty are alike.
func like(a, b api.V4) bool {
	if !bytes.Equal(a.Options, b.Options) || !bytes.Equal(a.Body, b.Body) {
		return false
	}
	a.Options, a.Body, b.Options, b.Body = nil, nil, nil, nil
	return reflect.DeepEqual(a, b)
}

func allLike(a, b []api.V4) bool {
	if len(a) != len(b) {
		return false
	}
	for i := range a {
		if !like(a[i], b[i]) {
			return false
		}
	}
	return true
}

// hold holds Split, Count and Fits against the plain way, and tells Split's answer.
func hold(t *testing.T, v api.V4, mtu int) ([]api.V4, api.Errno) {
	t.Helper()
	told := func() string { return show(v) }
	want, wantE := plainSplit(v, mtu)
	l, e := split.Split(v, mtu)
	if e != wantE || !allLike(l, want) {
		t.Fatalf("%s, MTU %d: Split = %s, %d; want %s, %d", told(), mtu, shape(l), e, shape(want), wantE)
	}
	if n, e := split.Count(v, mtu); n != len(want) || e != wantE {
		t.Fatalf("%s, MTU %d: Count = %d, %d; want %d, %d", told(), mtu, n, e, len(want), wantE)
	}
	fits, fitsE := len(want) == 1, wantE
	if wantE == api.ErrDF || wantE == api.ErrArg || wantE == api.ErrRange {
		fitsE = api.OK
	}
	if ok, e := split.Fits(v, mtu); ok != fits || e != fitsE {
		t.Fatalf("%s, MTU %d: Fits = %t, %d; want %t, %d", told(), mtu, ok, e, fits, fitsE)
	}
	return l, e
}

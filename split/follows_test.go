package split_test

import (
	"bytes"
	"math/rand/v2"
	"testing"

	"ferryman/api"
	"ferryman/ipv4"
	"ferryman/split"
)

// together puts fragments together, in any order: what stands from the place of the first one on. Each byte must come once, and there must be none that does not.
func together(t *testing.T, r *rand.Rand, l []api.V4) (from int, all []byte) {
	t.Helper()
	from, end, n := 8*l[0].Off, 0, 0
	for _, f := range l {
		from, end, n = min(from, 8*f.Off), max(end, 8*f.Off+len(f.Body)), n+len(f.Body)
	}
	all, came := make([]byte, end-from), make([]bool, end-from)
	for _, i := range r.Perm(len(l)) {
		for k, x := range l[i].Body {
			at := 8*l[i].Off + k - from
			if came[at] {
				t.Fatalf("byte %d came twice: %s", from+at, shape(l))
			}
			all[at], came[at] = x, true
		}
	}
	if n != len(all) {
		t.Fatalf("%d bytes from %d to %d: %s", n, from, end, shape(l))
	}
	return from, all
}

// testFollows holds fragments against what P13.3 and P13.4 say of those of a datagram.
func testFollows(t *testing.T, r *rand.Rand, v api.V4, mtu int, l []api.V4) {
	t.Helper()
	next := v.Off * 8
	for i, f := range l {
		size, head, e := ipv4.Size(f)
		if e != api.OK || ipv4.Check(f) != api.OK || size > mtu {
			t.Fatalf("%s, MTU %d: %d: %d bytes, %d", show(v), mtu, i, size, e)
		}
		if b, e := ipv4.Write(f); e != api.OK || len(b) > mtu {
			t.Fatalf("%s, MTU %d: %d: %d bytes written, %d", show(v), mtu, i, len(b), e)
		}
		if 8*f.Off != next {
			t.Fatalf("%s, MTU %d: %d begins at %d, not at %d", show(v), mtu, i, 8*f.Off, next)
		}
		next += len(f.Body)
		if last := i == len(l)-1; !last && (mtu-size >= 8 || (size-head)%8 != 0 || !f.MF) || last && f.MF != v.MF {
			t.Fatalf("%s, MTU %d: %s", show(v), mtu, shape(l))
		}
	}
	if from, all := together(t, r, l); from != 8*v.Off || !bytes.Equal(all, v.Body) {
		t.Fatalf("%s, MTU %d: from %d on %d bytes of Body come out", show(v), mtu, from, len(all))
	}
}

// someMTU is an MTU that makes few or many fragments of so many bytes.
func someMTU(r *rand.Rand, size int) int {
	switch r.IntN(4) {
	case 0:
		return 68 + r.IntN(20)
	case 1:
		return max(68, min(65535, size-5+r.IntN(8)))
	default:
		return 68 + r.IntN(max(1, min(size, 65400)))
	}
}

// someDatagram is one that may be; most of them may be split.
func someDatagram(r *rand.Rand, most int) api.V4 {
	v := someV4(r, 4*r.IntN(11), r.IntN(most))
	v.DF = r.IntN(12) == 0
	switch r.IntN(6) {
	case 0:
		v.Off = 8191 - r.IntN(most/8) // so that some fragments come beyond the greatest Off
	case 1, 2, 3:
		v.Off = r.IntN(2) * r.IntN(50)
	}
	if v.MF && r.IntN(6) > 0 {
		v.Body = v.Body[:len(v.Body)/8*8]
	}
	return v
}

// P13.2 to P13.4: random datagrams and MTUs, held against the plain way, and put together again.
func TestRandom(t *testing.T) {
	r := dice()
	counts := map[api.Errno]int{}
	for i := range 12000 {
		most := 600
		if i%40 == 0 {
			most = 65475
		}
		v := someDatagram(r, most)
		mtu := someMTU(r, 20+len(v.Options)+len(v.Body))
		l, e := hold(t, v, mtu)
		counts[e]++
		if e == api.OK {
			testFollows(t, r, v, mtu, l)
		}
	}
	for _, e := range []api.Errno{api.OK, api.ErrDF, api.ErrArg, api.ErrRange} {
		if counts[e] < 100 {
			t.Errorf("%d only %d times", e, counts[e])
		}
	}
}

// Rule 1: structs that nobody made with care, and MTUs that may not be.
func TestRandomWrong(t *testing.T) {
	r := dice()
	offs := []int{-1, -8191, 8192, 8193, 65535, 1 << 40, -1 << 63, 1<<63 - 1}
	counts := map[api.Errno]int{}
	for range 6000 {
		v := someDatagram(r, 300)
		mtu := 60 + r.IntN(200)
		switch r.IntN(6) {
		case 0:
			v.Off = offs[r.IntN(len(offs))]
		case 1:
			v.Options = someBytes(r, r.IntN(60))
		case 2:
			v.Body = make([]byte, 65400+r.IntN(200))
		}
		if r.IntN(4) == 0 {
			mtu = farMTUs[r.IntN(len(farMTUs))]
		}
		_, e := hold(t, v, mtu)
		counts[e]++
	}
	for _, e := range []api.Errno{api.OK, api.ErrV4, api.ErrLong, api.ErrMTU, api.ErrDF, api.ErrArg, api.ErrRange} {
		if counts[e] < 20 {
			t.Errorf("%d only %d times", e, counts[e])
		}
	}
}

// splitAll splits fragments one by one; false: one of them is refused, as its Off would come to be too great.
func splitAll(t *testing.T, r *rand.Rand, l []api.V4, mtu int) ([]api.V4, bool) {
	t.Helper()
	var out []api.V4
	for _, f := range l {
		m, e := hold(t, f, mtu)
		if e == api.ErrRange {
			return nil, false
		}
		if e != api.OK {
			t.Fatalf("%s, MTU %d: %d", show(f), mtu, e)
		}
		testFollows(t, r, f, mtu, m)
		out = append(out, m...)
	}
	return out, true
}

// P13.5: fragments split once more for lesser and lesser MTUs have the same bytes at the same places, one behind the other.
func TestAgain(t *testing.T) {
	r := dice()
	turns, refused := 0, 0
	for i := range 4000 {
		most := 800
		if i%50 == 0 {
			most = 65475
		}
		v := someDatagram(r, most)
		v.DF = false
		mtu := someMTU(r, 20+len(v.Options)+len(v.Body))
		l, e := split.Split(v, mtu)
		for e == api.OK && len(l) > 1 && mtu > 68 {
			mtu = 68 + r.IntN(mtu-68)
			again, ok := splitAll(t, r, l, mtu)
			if !ok {
				refused++
				break
			}
			l = again
			turns++
			testAgain(t, r, v, mtu, l)
		}
	}
	if turns < 2000 || refused < 20 {
		t.Errorf("%d turns, %d refused", turns, refused)
	}
}

// testAgain holds fragments that were split more than once against the datagram that they come from.
func testAgain(t *testing.T, r *rand.Rand, v api.V4, mtu int, l []api.V4) {
	t.Helper()
	if from, all := together(t, r, l); from != 8*v.Off || !bytes.Equal(all, v.Body) {
		t.Fatalf("%s, again for MTU %d: from %d on %d bytes of Body come out", show(v), mtu, from, len(all))
	}
	copied, next := plainCopied(v.Options), v.Off*8
	for i, f := range l {
		want := v
		want.Off, want.Body, want.Options, want.MF = next/8, f.Body, copied, true
		if i == 0 {
			want.Options = v.Options
		}
		if i == len(l)-1 {
			want.MF = v.MF
		}
		if !like(f, want) {
			t.Fatalf("%s, again for MTU %d: %d: %s", show(v), mtu, i, show(f))
		}
		next += len(f.Body)
	}
}

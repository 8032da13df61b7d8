package splitsix_test

import (
	"bytes"
	"math/rand/v2"
	"testing"

	"ferryman/api"
	"ferryman/ipv6"
	"ferryman/splitsix"
)

// together puts fragments together, in any order: what stands from the place of the first one on. Each byte must come once, and there must be none that does not.
func together(t *testing.T, r *rand.Rand, l []api.V6) (from int, all []byte) {
	t.Helper()
	from, end, n := 8*l[0].Off, 0, 0
	for _, f := range l {
		from, end, n = min(from, 8*f.Off), max(end, 8*f.Off+len(f.Body)), n+len(f.Body)
	}
	all, came := make([]byte, end-from), make([]bool, end-from)
	for _, i := range r.Perm(len(l)) {
		for k, x := range l[i].Body {
			at := 8*l[i].Off + k - from
			if came[at] {
				t.Fatalf("byte %d came twice: %s", from+at, shape(l))
			}
			all[at], came[at] = x, true
		}
	}
	if n != len(all) {
		t.Fatalf("%d bytes from %d to %d: %s", n, from, end, shape(l))
	}
	return from, all
}

// testFollows holds fragments against what P14.3 and P14.4 say of those of a datagram.
func testFollows(t *testing.T, r *rand.Rand, v api.V6, mtu int, l []api.V6) {
	t.Helper()
	next := v.Off * 8
	for i, f := range l {
		size, head, e := ipv6.Size(f)
		if e != api.OK || ipv6.Check(f) != api.OK || size > mtu {
			t.Fatalf("%s, MTU %d: %d: %d bytes, %d", show(v), mtu, i, size, e)
		}
		if b, e := ipv6.Write(f); e != api.OK || len(b) > mtu {
			t.Fatalf("%s, MTU %d: %d: %d bytes written, %d", show(v), mtu, i, len(b), e)
		}
		if 8*f.Off != next || f.ID != l[0].ID {
			t.Fatalf("%s, MTU %d: %d begins at %d, not at %d, and has the ID %d", show(v), mtu, i, 8*f.Off, next, f.ID)
		}
		next += len(f.Body)
		if last := i == len(l)-1; !last && (mtu-size >= 8 || (size-head)%8 != 0 || !f.More) || last && f.More != v.More {
			t.Fatalf("%s, MTU %d: %s", show(v), mtu, shape(l))
		}
	}
	if from, all := together(t, r, l); from != 8*v.Off || !bytes.Equal(all, v.Body) {
		t.Fatalf("%s, MTU %d: from %d on %d bytes of Body come out", show(v), mtu, from, len(all))
	}
}

// someMTU is an MTU that makes few or many fragments of a datagram.
func someMTU(r *rand.Rand, v api.V6) int {
	size := plainSize(v)
	switch r.IntN(4) {
	case 0:
		return 1280 + r.IntN(20)
	case 1:
		return max(1280, min(65535, size-5+r.IntN(8)))
	case 2:
		return max(1280, min(65535, plainHeads(v)+r.IntN(40)))
	default:
		return 1280 + r.IntN(max(1, min(size, 65535)-1279))
	}
}

// someDatagram is one that may be, with less than so many bytes of Body; most of them may be split.
func someDatagram(r *rand.Rand, most int) api.V6 {
	heads := []int{0, 8, 8 * r.IntN(20), 8 * (145 + r.IntN(10)), 8 * r.IntN(300)}[r.IntN(5)]
	if heads+most > 65500 {
		heads = 0
	}
	v := someV6(r, heads, r.IntN(most))
	switch r.IntN(6) {
	case 0:
		v = fragment(v, r.Uint32(), 8191-r.IntN(most/8), r.IntN(2) == 0) // so that some fragments come beyond the greatest Off
	case 1, 2, 3:
		v = fragment(v, r.Uint32(), r.IntN(2)*r.IntN(50), r.IntN(2) == 0)
	}
	if v.Frag && r.IntN(3) == 0 {
		v.Proto = []byte{0, 43, 44, 60}[r.IntN(4)]
	}
	if v.More && r.IntN(6) > 0 {
		v.Body = v.Body[:len(v.Body)/8*8]
	}
	return v
}

// someWrong is a datagram as it was, or, now and then, one that may not be.
func someWrong(r *rand.Rand, v api.V6) api.V6 {
	offs := []int{-1, -8191, 8192, 8193, 65535, 1 << 40, -1 << 63, 1<<63 - 1}
	switch r.IntN(12) {
	case 0:
		v.Off = offs[r.IntN(len(offs))]
	case 1:
		v.Heads = append(v.Heads[:len(v.Heads):len(v.Heads)], api.Head{Kind: byte(r.IntN(64)), Body: someBytes(r, r.IntN(24))})
	case 2:
		v.Body = make([]byte, 65480+r.IntN(60))
	case 3:
		v.Frag = !v.Frag
	case 4:
		v.Label = r.Uint32()
	case 5:
		v.Proto = byte(r.IntN(64))
	}
	return v
}

// P14.1, P14.3, P14.4: random datagrams and MTUs, held against the plain way, and put together again.
func TestRandom(t *testing.T) {
	r := dice()
	counts := map[api.Errno]int{}
	for i := range 8000 {
		most := 5000
		if i%40 == 0 {
			most = 65475
		}
		v := someDatagram(r, most)
		mtu, id := someMTU(r, v), r.Uint32()
		l, e := hold(t, v, mtu, id)
		counts[e]++
		if e != api.OK {
			continue
		}
		testFollows(t, r, v, mtu, l)
		if v.Frag {
			id = v.ID
		}
		if len(l) > 1 && l[0].ID != id {
			t.Fatalf("%s, MTU %d: ID %d; want %d", show(v), mtu, l[0].ID, id)
		}
	}
	for _, e := range []api.Errno{api.OK, api.ErrArg, api.ErrSpace, api.ErrRange} {
		if counts[e] < 100 {
			t.Errorf("%d only %d times", e, counts[e])
		}
	}
}

// Rule 1: structs that nobody made with care, and MTUs that may not be.
func TestRandomWrong(t *testing.T) {
	r := dice()
	counts := map[api.Errno]int{}
	for range 8000 {
		v := someWrong(r, someDatagram(r, 2000))
		mtu := 1270 + r.IntN(200)
		if r.IntN(4) == 0 {
			mtu = farMTUs[r.IntN(len(farMTUs))]
		}
		_, e := hold(t, v, mtu, r.Uint32())
		counts[e]++
	}
	for _, e := range []api.Errno{api.OK, api.ErrV6, api.ErrLong, api.ErrMTU, api.ErrArg, api.ErrSpace, api.ErrRange} {
		if counts[e] < 20 {
			t.Errorf("%d only %d times", e, counts[e])
		}
	}
}

// splitAll splits fragments one by one; else the error of the first one that is refused, as there is no room or its Off would come to be too great.
func splitAll(t *testing.T, r *rand.Rand, l []api.V6, mtu int) ([]api.V6, api.Errno) {
	t.Helper()
	var out []api.V6
	for _, f := range l {
		m, e := hold(t, f, mtu, r.Uint32())
		if e == api.ErrRange || e == api.ErrSpace {
			return nil, e
		}
		if e != api.OK {
			t.Fatalf("%s, MTU %d: %d", show(f), mtu, e)
		}
		testFollows(t, r, f, mtu, m)
		out = append(out, m...)
	}
	return out, api.OK
}

// P14.5: fragments split once more for lesser and lesser MTUs have the same bytes at the same places, one behind the other.
func TestAgain(t *testing.T) {
	r := dice()
	turns, refused := 0, map[api.Errno]int{}
	for i := range 3000 {
		most := 6000
		if i%50 == 0 {
			most = 65475
		}
		v := someDatagram(r, most)
		if i%10 == 0 {
			v = fragment(v, r.Uint32(), max(0, 8191-len(v.Body)/8+r.IntN(150)), false) // so that it ends a little beyond the greatest Off
			v.Off = min(v.Off, 8191)
		}
		mtu := someMTU(r, v)
		l, e := splitsix.Split(v, mtu, r.Uint32())
		for e == api.OK && len(l) > 1 && mtu > 1280 {
			mtu = 1280 + r.IntN(mtu-1280)
			l, e = splitAll(t, r, l, mtu)
			refused[e]++
			if e == api.OK {
				turns++
				testAgain(t, r, v, mtu, l)
			}
		}
	}
	if turns < 1500 || refused[api.ErrRange] < 20 || refused[api.ErrSpace] < 20 {
		t.Errorf("%d turns, %d", turns, refused)
	}
}

// testAgain holds fragments that were split more than once against the datagram that they come from.
func testAgain(t *testing.T, r *rand.Rand, v api.V6, mtu int, l []api.V6) {
	t.Helper()
	if from, all := together(t, r, l); from != 8*v.Off || !bytes.Equal(all, v.Body) {
		t.Fatalf("%s, again for MTU %d: from %d on %d bytes of Body come out", show(v), mtu, from, len(all))
	}
	next, id := v.Off*8, l[0].ID
	if v.Frag {
		id = v.ID
	}
	for i, f := range l {
		want := fragment(v, id, next/8, i < len(l)-1 || v.More)
		want.Body = f.Body
		if !like(f, want) {
			t.Fatalf("%s, again for MTU %d: %d: %s", show(v), mtu, i, show(f))
		}
		next += len(f.Body)
	}
}

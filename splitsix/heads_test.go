package splitsix_test

import (
	"reflect"
	"testing"

	"ferryman/api"
	"ferryman/splitsix"
)

// testAtomic holds Atomic against an error, and against the plain way.
func testAtomic(t *testing.T, v api.V6, want api.Errno) {
	t.Helper()
	holdHeads(t, v, 9)
	a, e := splitsix.Atomic(v, 9)
	if e != want || e != api.OK && !reflect.DeepEqual(a, api.V6{}) {
		t.Errorf("%s: Atomic = %s, %d; want %d", show(v), show(a), e, want)
	}
}

// testBare holds Bare against an error, and against the plain way.
func testBare(t *testing.T, v api.V6, want api.Errno) {
	t.Helper()
	holdHeads(t, v, 9)
	b, e := splitsix.Bare(v)
	if e != want || e != api.OK && !reflect.DeepEqual(b, api.V6{}) {
		t.Errorf("%s: Bare = %s, %d; want %d", show(v), show(b), e, want)
	}
}

// P14.2: Atomic of a datagram without a fragment header, and of one that has one.
func TestAtomic(t *testing.T) {
	v := someV6(dice(), 40, 100)
	for _, id := range []uint32{0, 1, 9, 1<<32 - 1} {
		want := v
		want.Frag, want.ID = true, id
		if a, e := splitsix.Atomic(v, id); !like(a, want) || e != api.OK {
			t.Errorf("%s, %d", show(a), e)
		}
		testAtomic(t, fragment(v, id, 0, false), api.ErrAgain)
		testAtomic(t, fragment(v, id, 0, true), api.ErrAgain)
		testAtomic(t, fragment(v, id, 1, false), api.ErrAgain)
	}
	testAtomic(t, api.V6{Proto: 59}, api.OK)
	// ErrAgain comes ahead of ErrLong: such a one is as long as it may be.
	testAtomic(t, fragment(body(65527), 1, 0, false), api.ErrAgain)
}

// P14.2: with its fragment header a datagram is just as long as may be, and one byte longer.
func TestAtomicOfLong(t *testing.T) {
	for _, n := range []int{0, 8, 2048, 16384} {
		for more := -8; more <= 8; more++ {
			want := api.OK
			if more > 0 {
				want = api.ErrLong
			}
			testAtomic(t, withHeads(n, 65527-n+more), want)
		}
	}
	testAtomic(t, body(65536), api.ErrLong)
}

// P14.2: Bare of a datagram without a fragment header, with one alone, with More, with an Off above 0.
func TestBare(t *testing.T) {
	v := someV6(dice(), 40, 100)
	if b, e := splitsix.Bare(v); !like(b, v) || e != api.OK {
		t.Errorf("%s, %d", show(b), e)
	}
	for _, id := range []uint32{0, 1, 1<<32 - 1} {
		if b, e := splitsix.Bare(fragment(v, id, 0, false)); !like(b, v) || e != api.OK {
			t.Errorf("ID %d: %s, %d", id, show(b), e)
		}
		testBare(t, fragment(v, id, 0, true), api.ErrAgain)
		testBare(t, fragment(v, id, 1, false), api.ErrAgain)
		testBare(t, fragment(v, id, 8191, false), api.ErrAgain)
		testBare(t, fragment(v, id, 8191, true), api.ErrAgain)
		testBare(t, fragment(v, id, 8192, true), api.ErrV6)
		testBare(t, fragment(v, id, -1, false), api.ErrV6)
	}
	testBare(t, body(65535), api.OK)
	testBare(t, fragment(body(65527), 3, 0, false), api.OK)
	testBare(t, fragment(body(65528), 3, 0, false), api.ErrLong)
}

// P14.2: without its fragment header a head would stand behind: of every Proto.
func TestBareOfProtos(t *testing.T) {
	for proto := range 256 {
		want := api.OK
		switch proto {
		case 0, 43, 44, 60:
			want = api.ErrV6
		}
		v := withHeads(16, 50)
		v.Proto = byte(proto)
		testBare(t, fragment(v, 3, 0, false), want)
		testBare(t, fragment(v, 3, 0, true), api.ErrAgain)
		testBare(t, fragment(v, 3, 1, false), api.ErrAgain)
		testBare(t, v, want)
		testAtomic(t, v, want)
	}
}

// P14.6: Bare of Atomic is the datagram; and Atomic of Bare is one that had Frag alone.
func TestThereAndBack(t *testing.T) {
	r := dice()
	for i := range 4000 {
		v := someV6(r, 8*r.IntN(30), r.IntN(300))
		if i%50 == 0 {
			v = someV6(r, 8*r.IntN(2049), 65527)
			v.Body = v.Body[:65527-plainHeads(v)+48-r.IntN(2)*r.IntN(40000)]
		}
		id := r.Uint32()
		a, e := splitsix.Atomic(v, id)
		if e != api.OK || !a.Frag || a.ID != id {
			t.Fatalf("%s: %s, %d", show(v), show(a), e)
		}
		if b, e := splitsix.Bare(a); e != api.OK || !like(b, v) {
			t.Fatalf("%s: Bare of Atomic: %s, %d", show(v), show(b), e)
		}
		b, _ := splitsix.Bare(a)
		if c, e := splitsix.Atomic(b, a.ID); e != api.OK || !like(c, a) {
			t.Fatalf("%s: Atomic of Bare: %s, %d", show(a), show(c), e)
		}
	}
}

// P14.2, rule 1: random datagrams, wrong ones among them, held against the plain way.
func TestHeadsOfRandom(t *testing.T) {
	r := dice()
	counts := map[string]map[api.Errno]int{"Atomic": {}, "Bare": {}}
	for range 20000 {
		v := someWrong(r, someDatagram(r, 200))
		id := r.Uint32()
		holdHeads(t, v, id)
		_, e := splitsix.Atomic(v, id)
		counts["Atomic"][e]++
		_, e = splitsix.Bare(v)
		counts["Bare"][e]++
	}
	for call, errs := range map[string][]api.Errno{"Atomic": {api.OK, api.ErrV6, api.ErrLong, api.ErrAgain}, "Bare": {api.OK, api.ErrV6, api.ErrLong, api.ErrAgain}} {
		for _, e := range errs {
			if counts[call][e] < 100 {
				t.Errorf("%s: %d only %d times", call, e, counts[call][e])
			}
		}
	}
}

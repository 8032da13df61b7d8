package portset_test

import (
	"math"
	"math/rand/v2"
	"testing"

	"ferryman/api"
	"ferryman/portset"
)

// P9.3: sets of one run, of many, of runs of one port, and those whose blocks would touch.
func TestRunsNamed(t *testing.T) {
	for _, c := range []struct {
		set         api.PortSet
		n           int
		first, last api.Ports
	}{
		{api.PortSet{}, 1, api.Ports{From: 0, To: 65535}, api.Ports{From: 0, To: 65535}},
		{api.PortSet{Len: 1, PSID: 1}, 1, api.Ports{From: 32768, To: 65535}, api.Ports{From: 32768, To: 65535}},
		{api.PortSet{Len: 16}, 1, api.Ports{From: 0, To: 0}, api.Ports{From: 0, To: 0}},
		{api.PortSet{Len: 16, PSID: 65535}, 1, api.Ports{From: 65535, To: 65535}, api.Ports{From: 65535, To: 65535}},
		{api.PortSet{Offset: 1}, 1, api.Ports{From: 32768, To: 65535}, api.Ports{From: 32768, To: 65535}},
		{api.PortSet{Offset: 6}, 1, api.Ports{From: 1024, To: 65535}, api.Ports{From: 1024, To: 65535}},
		{api.PortSet{Offset: 15}, 1, api.Ports{From: 2, To: 65535}, api.Ports{From: 2, To: 65535}},
		{api.PortSet{Offset: 1, Len: 15, PSID: 7}, 1, api.Ports{From: 32775, To: 32775}, api.Ports{From: 32775, To: 32775}},
		{api.PortSet{Offset: 2, Len: 1, PSID: 0}, 3, api.Ports{From: 16384, To: 24575}, api.Ports{From: 49152, To: 57343}},
		{api.PortSet{Offset: 15, Len: 1, PSID: 0}, 32767, api.Ports{From: 2, To: 2}, api.Ports{From: 65534, To: 65534}},
		{api.PortSet{Offset: 15, Len: 1, PSID: 1}, 32767, api.Ports{From: 3, To: 3}, api.Ports{From: 65535, To: 65535}},
		{api.PortSet{Offset: 6, Len: 10, PSID: 1023}, 63, api.Ports{From: 2047, To: 2047}, api.Ports{From: 65535, To: 65535}},
	} {
		l, e := portset.Runs(c.set)
		if len(l) != c.n || e != api.OK {
			t.Errorf("%v: %d runs, %v; want %d", c.set, len(l), e, c.n)
			continue
		}
		if l[0] != c.first || l[c.n-1] != c.last {
			t.Errorf("%v: %v to %v; want %v to %v", c.set, l[0], l[c.n-1], c.first, c.last)
		}
	}
}

// P9.2: Next below the least, at one, at a run's end, between two, at the last and above it.
func TestNextNamed(t *testing.T) {
	s := api.PortSet{Offset: 6, Len: 8, PSID: 0x34}
	for _, c := range [][2]uint16{
		{0, 1232}, {80, 1232}, {208, 1232}, {1231, 1232}, {1232, 1233}, {1234, 1235}, {1235, 2256}, {1236, 2256}, {2255, 2256},
		{64719, 64720}, {64722, 64723}, {64723, 1232}, {64724, 1232}, {65535, 1232},
	} {
		if next, e := portset.Next(s, c[0]); next != c[1] || e != api.OK {
			t.Errorf("%d: %d, %v; want %d", c[0], next, e, c[1])
		}
	}
	// A set of one port has it behind itself.
	for _, port := range []uint16{0, 32774, 32775, 32776, 65535} {
		if next, e := portset.Next(api.PortSet{Offset: 1, Len: 15, PSID: 7}, port); next != 32775 || e != api.OK {
			t.Errorf("%d: %d, %v", port, next, e)
		}
	}
	if next, e := portset.Next(api.PortSet{}, 65535); next != 0 || e != api.OK {
		t.Errorf("behind the last of all: %d, %v", next, e)
	}
}

// P9.4: each port is nobody's, or the i-th of one set alone; P9.5: all sets have as many, at least one.
func TestEachOnes(t *testing.T) {
	for _, c := range cuts() {
		var times [ports]int
		many, _ := portset.Count(c.set(0))
		if many < 1 {
			t.Fatalf("%v: %d ports", c, many)
		}
		for psid := range power(c.length) {
			n, e := portset.Count(c.set(psid))
			if n != many || e != api.OK {
				t.Fatalf("%v, PSID %d: %d ports, %v; another set has %d", c, psid, n, e, many)
			}
			for i := range n {
				port, _ := portset.At(c.set(psid), i)
				times[port]++
			}
		}
		for port, n := range times {
			want := 1
			if _, somebodys, _ := portset.Of(c.offset, c.length, uint16(port)); !somebodys {
				want = 0
			}
			if n != want {
				t.Fatalf("%v: %d is %d sets', want %d", c, port, n, want)
			}
		}
	}
}

// P9.4: asked of Has, of all sets with one Offset and Len.
func TestHasEachOnes(t *testing.T) {
	r := dice()
	for _, c := range cuts() {
		for _, port := range []uint16{0, 1, 1024, 65535, uint16(r.Uint32())} {
			whose := plainOf(c, texts[port])
			for psid := range power(c.length) {
				if has, e := portset.Has(c.set(psid), port); has != (psid == whose) || e != api.OK {
					t.Fatalf("%v, PSID %d, %d: %v, %v; it is %d's", c, psid, port, has, e, whose)
				}
			}
		}
	}
}

// P9.5: how many ports sets have whose Offset and Len are 16 together.
func TestWholeCut(t *testing.T) {
	for offset := range 16 {
		want := max(power(offset)-1, 1)
		for _, psid := range []int{0, power(16-offset) - 1} {
			if n, e := portset.Count(cut{offset, 16 - offset}.set(psid)); n != want || e != api.OK {
				t.Errorf("Offset %d, PSID %d: %d, %v; want %d", offset, psid, n, e, want)
			}
		}
	}
}

// P9.6: Index of At is the place, and Next goes through all ports, each once.
func TestThereAndBack(t *testing.T) {
	r := dice()
	for _, c := range cuts() {
		for _, psid := range psids(r, c) {
			s := c.set(psid)
			n, _ := portset.Count(s)
			last, _ := portset.At(s, n-1)
			for i := range n {
				port, _ := portset.At(s, i)
				if at, e := portset.Index(s, port); at != i || e != api.OK {
					t.Fatalf("%v: Index of %d: %d, %v; want %d", s, port, at, e, i)
				}
				if last, _ = portset.Next(s, last); last != port {
					t.Fatalf("%v: Next goes to %d, %d is the %d-th", s, last, port, i)
				}
			}
		}
	}
}

// Random sets and ports, many of which may not be or are none.
func TestRandom(t *testing.T) {
	r := dice()
	seen := map[api.Errno]int{}
	for range 300000 {
		s := api.PortSet{Offset: r.IntN(18) - 1, Len: r.IntN(19) - 1, PSID: uint16(r.Uint32() >> r.IntN(32))}
		if r.IntN(20) == 0 {
			s.Offset = far[r.IntN(len(far))]
		}
		if r.IntN(20) == 0 {
			s.Len = far[r.IntN(len(far))]
		}
		if !mayBe(s) {
			seen[api.ErrSet]++
			holdWrong(t, s)
			continue
		}
		seen[holdRandom(t, r, s)]++
	}
	if len(seen) != 3 {
		t.Error("some answer was never asked for", seen)
	}
}

// holdRandom asks all calls but Runs of a set that may be, and tells what Index is to.
func holdRandom(t *testing.T, r *rand.Rand, s api.PortSet) api.Errno {
	t.Helper()
	port := uint16(r.Uint32())
	if n, _ := portset.Count(s); r.IntN(2) == 0 {
		port, _ = portset.At(s, r.IntN(n))
	}
	one := plainOf(cut{s.Offset, s.Len}, texts[port]) == int(s.PSID)
	if has, e := portset.Has(s, port); has != one || e != api.OK {
		t.Fatalf("Has of %v, %d: %v, %v", s, port, has, e)
	}
	at, e := portset.Index(s, port)
	if (e == api.OK) != one || !one && (at != 0 || e != api.ErrPort) {
		t.Fatalf("Index of %v, %d: %d, %v", s, port, at, e)
	}
	if back, _ := portset.At(s, at); one && back != port {
		t.Fatalf("At of %v, %d: %d, want %d", s, at, back, port)
	}
	if i := r.Int() - math.MaxInt/2; i < 0 || i >= ports {
		if p, e := portset.At(s, i); p != 0 || e != api.ErrRange {
			t.Fatalf("At of %v, %d: %d, %v", s, i, p, e)
		}
	}
	return e
}

// Rule 4: an answer is new memory, whatever is done to another one.
func TestMemory(t *testing.T) {
	for _, s := range []api.PortSet{{}, {Offset: 6, Len: 8, PSID: 0x34}, {Offset: 15}, {Offset: 15, Len: 1}} {
		a, _ := portset.Runs(s)
		b, _ := portset.Runs(s)
		first := b[0]
		for i := range a {
			a[i] = api.Ports{From: 9, To: 8}
		}
		a = append(a[:0], api.Ports{From: 7, To: 6})
		c, _ := portset.Runs(s)
		if b[0] != first || c[0] != first || len(a) != 1 {
			t.Errorf("%v: %v and %v, want %v", s, b[0], c[0], first)
		}
	}
}

// Rule 5: the same call answers the same, whatever was asked between.
func TestAgain(t *testing.T) {
	r := dice()
	s := api.PortSet{Offset: 4, Len: 6, PSID: 9}
	for range 1000 {
		holdRandom(t, r, api.PortSet{Offset: r.IntN(5), Len: 1 + r.IntN(11), PSID: uint16(r.IntN(2))})
		if port, e := portset.At(s, 70); port != 4096*2+9*64+6 || e != api.OK {
			t.Fatalf("At: %d, %v", port, e)
		}
		if next, e := portset.Next(s, 4096+9*64+63); next != 4096*2+9*64 || e != api.OK {
			t.Fatalf("Next: %d, %v", next, e)
		}
	}
}

package join_test

import (
	"math"
	"testing"

	"ferryman/api"
	"ferryman/ipv4"
	"ferryman/ipv6"
)

// timed is each call that is made at a time: what it tells of an ordinary one.
func timed(b both) map[string]func(now int) api.Errno {
	return map[string]func(now int) api.Errno{
		"Put4": func(now int) api.Errno {
			b.t.Helper()
			_, _, e := b.put4(now, api.V4{})
			return e
		},
		"Put4 of a fragment": func(now int) api.Errno {
			b.t.Helper()
			_, _, e := b.put4(now, four(part{id: 1, off: 1, n: 8, more: true}))
			return e
		},
		"Put6": func(now int) api.Errno {
			b.t.Helper()
			_, _, e := b.put6(now, api.V6{Proto: 17})
			return e
		},
		"Put6 of a fragment": func(now int) api.Errno {
			b.t.Helper()
			_, _, e := b.put6(now, six(part{id: 1, off: 1, n: 8, more: true}))
			return e
		},
		"Tick": func(now int) api.Errno {
			b.t.Helper()
			_, e := b.tick(now)
			return e
		},
	}
}

// ErrTime: below 0, beyond MaxTime, and below the greatest time ahead; nothing changes then, the time not either.
func TestTimes(t *testing.T) {
	for first := range timed(newBoth(t, 4, 1<<20)) {
		for second := range timed(newBoth(t, 4, 1<<20)) {
			b := newBoth(t, 4, 1<<20)
			one, two := timed(b)[first], timed(b)[second]
			steps := []struct {
				call func(int) api.Errno
				now  int
				want api.Errno
			}{
				{one, -1, api.ErrTime}, {one, math.MinInt, api.ErrTime}, {one, maxTime + 1, api.ErrTime}, {one, math.MaxInt, api.ErrTime},
				{two, 0, api.OK}, {one, 0, api.OK}, // what told ErrTime counts for nothing
				{one, 7, api.OK}, {two, 6, api.ErrTime}, {two, 0, api.ErrTime}, {two, 7, api.OK}, {one, 8, api.OK}, {one, 7, api.ErrTime},
				{two, maxTime + 5, api.ErrTime}, {one, 8, api.OK},
				{one, maxTime, api.OK}, {two, maxTime, api.OK}, {two, maxTime - 1, api.ErrTime}, {two, maxTime + 1, api.ErrTime}, {one, maxTime, api.OK},
			}
			for i, s := range steps {
				if e := s.call(s.now); e != s.want {
					t.Fatalf("%s, %s: step %d, at %d: %d; want %d", first, second, i, s.now, e, s.want)
				}
			}
		}
	}
}

// ErrTime: the time of a call that told another error counts, as its datagram began or not.
func TestTimesOfErrors(t *testing.T) {
	head := api.Head{Kind: 60, Body: make([]byte, 2046)}
	long := six(part{id: 3, off: 0, n: 8, more: true})
	long.Heads = []api.Head{head}
	none := six(part{id: 4, n: 3})
	none.Proto = 43
	fails := []struct {
		want api.Errno
		call func(b both, now int) api.Errno
	}{
		{api.ErrV4, func(b both, now int) api.Errno { _, _, e := b.put4(now, api.V4{Off: -1}); return e }},
		{api.ErrLong, func(b both, now int) api.Errno { _, _, e := b.put4(now, api.V4{Body: make([]byte, 65536)}); return e }},
		{api.ErrV6, func(b both, now int) api.Errno { _, _, e := b.put6(now, api.V6{}); return e }},
		{api.ErrPiece, func(b both, now int) api.Errno { _, _, e := b.put4(now, four(part{n: 7, more: true})); return e }},
		{api.ErrPiece, func(b both, now int) api.Errno { _, _, e := b.put6(now, six(part{n: 7, more: true})); return e }},
		{api.ErrFull, func(b both, now int) api.Errno {
			for i := range 3 {
				b.put4(now, four(part{id: 10 + i, off: 1, n: 8, more: true}))
			}
			_, _, e := b.put4(now, four(part{id: 20, off: 1, n: 8, more: true}))
			return e
		}},
		{api.ErrOverlap, func(b both, now int) api.Errno {
			b.put4(0, four(part{id: 2, off: 1, n: 8, more: true}))
			_, _, e := b.put4(now, four(part{id: 2, off: 1, n: 8}))
			return e
		}},
		{api.ErrLong, func(b both, now int) api.Errno {
			b.put6(0, six(part{id: 3, off: 1, n: 65000}))
			_, _, e := b.put6(now, long)
			return e
		}},
		{api.ErrV6, func(b both, now int) api.Errno { _, _, e := b.put6(now, none); return e }},
	}
	for i, f := range fails {
		b := newBoth(t, 3, 10)
		if e := f.call(b, 9); e != f.want {
			t.Fatalf("%d: %d; want %d", i, e, f.want)
		}
		for name, call := range timed(b) {
			if e := call(8); e != api.ErrTime {
				t.Errorf("%d: %s at 8: %d", i, name, e)
			}
		}
		if _, e := b.tick(9); e != api.OK {
			t.Errorf("%d: Tick at 9: %d", i, e)
		}
	}
}

// Only Tick gives up: what is late, but was not ticked for, still takes its fragments.
func TestLateButNotTicked(t *testing.T) {
	each(t, func(t *testing.T, k kind) {
		b := newBoth(t, 1, 10)
		testPut(b, k, 0, part{id: 1, off: 1, n: 3}, false, api.OK)
		testPut(b, k, 100, part{id: 2, off: 1, n: 3}, false, api.ErrFull)
		testNext(b, 10, true)
		testPut(b, k, 100, part{id: 1, n: 8, more: true}, true, api.OK)
		testWaits(b, 0, 0)
		testNext(b, 0, false)
	})
}

// P15.3: Tick at just the Timeout, one below and one above; how long it waits hangs on its first fragment alone.
func TestTick(t *testing.T) {
	each(t, func(t *testing.T, k kind) {
		for _, timeout := range []int{1, 2, 10, 1 << 20} {
			for more := range 3 {
				b := newBoth(t, 2, timeout)
				testPut(b, k, 5, part{id: 1, off: 1, n: 8, more: true}, false, api.OK)
				testPut(b, k, 4+timeout, part{id: 1, off: 2, n: 8, more: true}, false, api.OK)
				testNext(b, 5+timeout, true)
				l, e := b.tick(4 + timeout)
				if len(l) != 0 || e != api.OK {
					t.Errorf("%d: %+v, %d", timeout, l, e)
				}
				testWaits(b, 1, 16)
				l, e = b.tick(5 + timeout + more)
				if len(l) != 1 || l[0].First || l[0].Six != (k.name == "six") || e != api.OK {
					t.Errorf("%d: %+v, %d", timeout, l, e)
				}
				testWaits(b, 0, 0)
				testNext(b, 0, false)
				// It begins anew, with a time of its own.
				testPut(b, k, 5+timeout+more, part{id: 1, off: 1, n: 8, more: true}, false, api.OK)
				testNext(b, 5+timeout+more+timeout, true)
			}
		}
	})
}

// P15.3: what is late is told with the fragment with Off 0, as it came, and without one where none came.
func TestLate(t *testing.T) {
	b := newBoth(t, 4, 10)
	v := four(part{id: 1, n: 16, more: true})
	v.TOS, v.DF, v.TTL, v.Options = 1, true, 3, []byte{148, 4, 0, 0}
	w := six(part{id: 1, n: 16, more: true})
	w.Class, w.Label, w.Hop, w.Proto, w.Heads = 1, 2, 3, 60, []api.Head{{Kind: 0, Body: text(0, 6)}, {Kind: 43, Body: text(9, 14)}}
	b.put6(0, six(part{id: 1, off: 2, n: 8, more: true}))
	b.put6(0, w)
	b.put4(0, four(part{id: 2, off: 2, n: 8}))
	b.put4(0, v)
	b.put4(0, four(part{id: 1, off: 2, n: 8, more: true}))
	b.put6(0, six(part{id: 2, off: 2, n: 8}))
	l, e := b.tick(10)
	if len(l) != 4 || e != api.OK {
		t.Fatalf("%+v, %d", l, e)
	}
	want := []api.Late{{Six: true, First: true, V6: w}, {}, {First: true, V4: v}, {Six: true}}
	for i := range want {
		if !sameLate(l[i], want[i]) {
			t.Errorf("%d: %+v", i, l[i])
		}
	}
	if !ipv4.Same(l[2].V4, v) || !ipv6.Same(l[0].V6, w) {
		t.Error("not as they came")
	}
}

// P15.3: several that end at once are told in the order in which they began, whatever came later, and those that do not end stay.
func TestTickOrder(t *testing.T) {
	b := newBoth(t, 100, 10)
	l := kinds()
	for i := range 40 {
		testPut(b, l[i%2], i/4, part{id: 50 - i, n: 8 * (i + 1), more: true}, false, api.OK)
	}
	testNext(b, 10, true)
	// Some end in another way: they are not told.
	testPut(b, l[0], 9, part{id: 50, off: 1, n: 3}, true, api.OK)
	testPut(b, l[1], 9, part{id: 49, off: 3, n: 3}, false, api.OK) // this one goes on waiting
	testPut(b, l[1], 9, part{id: 47, n: 8, more: true}, false, api.ErrOverlap)
	testPut(b, l[0], 9, part{id: 46, n: 48, more: true}, false, api.ErrOverlap)
	late, _ := b.tick(12)
	var sizes []int
	for _, x := range late {
		sizes = append(sizes, len(x.V4.Body)+len(x.V6.Body))
	}
	want := []int{16, 24, 48, 56, 64, 72, 80, 88, 96}
	if len(sizes) != len(want) {
		t.Fatal(sizes)
	}
	for i := range want {
		if sizes[i] != want[i] {
			t.Errorf("%v; want %v", sizes, want)
		}
	}
	testNext(b, 13, true)
	testWaits(b, 28, 8*(40*41/2-12*13/2))
	if late, _ := b.tick(maxTime); len(late) != 28 {
		t.Errorf("%d", len(late))
	}
}

// P15.3: Next is at most MaxTime, and what is not yet late then does not end at it.
func TestNextNearMaxTime(t *testing.T) {
	each(t, func(t *testing.T, k kind) {
		for _, c := range []struct{ began, next int }{{maxTime - 11, maxTime - 1}, {maxTime - 10, maxTime}, {maxTime - 9, maxTime}, {maxTime - 1, maxTime}, {maxTime, maxTime}} {
			b := newBoth(t, 2, 10)
			testPut(b, k, c.began, part{id: 1, off: 1, n: 8, more: true}, false, api.OK)
			testPut(b, k, maxTime, part{id: 2, off: 1, n: 8, more: true}, false, api.OK)
			testNext(b, c.next, true)
			late, e := b.tick(maxTime)
			if want := c.began <= maxTime-10; (len(late) == 1) != want || len(late) > 1 || e != api.OK {
				t.Errorf("began at MaxTime%d: %d late", c.began-maxTime, len(late))
			}
			testNext(b, maxTime, true)
		}
	})
}

package pathmtu_test

import (
	"math"
	"testing"

	"ferryman/api"
)

// timed is each call that is made at a time: what it tells of an ordinary one.
func timed(b both) map[string]func(now int) api.Errno {
	return map[string]func(now int) api.Errno{
		"Get":                       func(now int) api.Errno { _, e := b.get(now, path(1)); return e },
		"Told":                      func(now int) api.Errno { _, e := b.told(now, path(1), 1300); return e },
		"Told of what counts not":   func(now int) api.Errno { _, e := b.told(now, path(2), 1500); return e },
		"Drop":                      func(now int) api.Errno { _, e := b.drop(now, path(1)); return e },
		"Drop of what is not there": func(now int) api.Errno { _, e := b.drop(now, path(3)); return e },
		"All":                       func(now int) api.Errno { _, e := b.all(now); return e },
	}
}

// ErrTime: below 0, beyond MaxTime, and below the greatest time ahead; the same may come again; nothing changes then, the time not either.
func TestTimes(t *testing.T) {
	for first := range timed(both{}) {
		for second := range timed(both{}) {
			b := newBoth(t, 4, 1<<20)
			one, two := timed(b)[first], timed(b)[second]
			steps := []struct {
				call func(int) api.Errno
				now  int
				want api.Errno
			}{
				{one, -1, 153}, {one, math.MinInt, 153}, {one, maxTime + 1, 153}, {one, math.MaxInt, 153},
				{two, 0, 0}, {one, 0, 0}, // what told ErrTime counts for nothing
				{one, 7, 0}, {two, 6, 153}, {two, 0, 153}, {two, 7, 0}, {one, 8, 0}, {one, 7, 153},
				{two, maxTime + 5, 153}, {one, 8, 0},
				{one, maxTime, 0}, {two, maxTime, 0}, {two, maxTime - 1, 153}, {two, maxTime + 1, 153}, {one, maxTime, 0},
			}
			for i, s := range steps {
				if e := s.call(s.now); e != s.want {
					t.Fatalf("%s, %s: step %d, at %d: %d; want %d", first, second, i, s.now, e, s.want)
				}
			}
		}
	}
}

// ErrTime: a time that came with an error is not one of those ahead, of ErrMTU neither, and takes nothing out.
func TestTimesOfErrors(t *testing.T) {
	for name := range timed(both{}) {
		b := newBoth(t, 4, 10)
		wantTold(b, 1, path(1), 1400, true)
		for _, mtu := range []int{-1, 65536} {
			if _, e := b.told(500, path(1), mtu); e != 131 {
				t.Errorf("Told of %d: %d", mtu, e)
			}
		}
		wantThere(b, 1, 11)
		if e := timed(b)[name](1); e != api.OK {
			t.Errorf("%s: %d", name, e)
		}
		wantGet(b, 499, path(1), 1500)
	}
}

// Of several errors the one that is named first is told: ErrTime ahead of ErrMTU.
func TestWhichFirst(t *testing.T) {
	b := newBoth(t, 4, 10)
	wantTold(b, 5, path(1), 1400, true)
	for _, now := range []int{-1, 0, 4, maxTime + 1, math.MinInt, math.MaxInt} {
		for _, mtu := range []int{-1, 65536, math.MinInt, math.MaxInt, 1300} {
			if is, e := b.told(now, path(1), mtu); is || e != 153 {
				t.Errorf("Told(%d, %d) = %t, %d", now, mtu, is, e)
			}
		}
	}
	if is, e := b.told(5, path(1), -1); is || e != 131 {
		t.Errorf("%t, %d", is, e)
	}
}

// P16.2 to P16.4: each call one below an entry's Until, at it, and one above.
func TestAtUntil(t *testing.T) {
	for _, life := range []int{1, 2, 10, 1 << 31} {
		for _, now := range []int{5 + life - 1, 5 + life, 5 + life + 1} {
			counts := now < 5+life
			begin := func() both {
				b := newBoth(t, 1, life)
				wantTold(b, 5, path(1), 1400, true)
				wantThere(b, 1, 5+life)
				return b
			}
			b := begin()
			if counts {
				wantGet(b, now, path(1), 1400)
				wantThere(b, 1, 5+life)
				wantTold(begin(), now, path(1), 1400, false)
				wantTold(begin(), now, path(1), 1450, false)
				wantDrop(begin(), now, path(1), true)
				wantAll(begin(), now, api.PathEntry{Dst: path(1), MTU: 1400, Until: 5 + life})
				continue
			}
			wantGet(b, now, path(1), 1500)
			wantThere(b, 0, 0)
			b = begin()
			wantTold(b, now, path(1), 1450, true)
			wantThere(b, 1, now+life)
			wantGet(b, now, path(1), 1450)
			wantTold(begin(), now, path(1), 1400, true)
			wantTold(begin(), now, path(1), 1500, false)
			wantDrop(begin(), now, path(1), false)
			wantAll(begin(), now)
		}
	}
}

// P16.1: every call, whatever it is asked, takes out all that is over, and nothing else.
func TestEachCallTakesOut(t *testing.T) {
	for name := range timed(both{}) {
		b := newBoth(t, 10, 10)
		for i := range 5 {
			wantTold(b, 2*i, path(10-i), 1400, true)
		}
		b.told(8, path(20), 1400)
		if e := timed(b)[name](13); e != api.OK {
			t.Fatalf("%s: %d", name, e)
		}
		if name == "Told" {
			wantDrop(b, 13, path(1), true)
		}
		wantThere(b, 4, 14)
		wantAll(b, 13, api.PathEntry{Dst: path(6), MTU: 1400, Until: 18}, api.PathEntry{Dst: path(7), MTU: 1400, Until: 16},
			api.PathEntry{Dst: path(8), MTU: 1400, Until: 14}, api.PathEntry{Dst: path(20), MTU: 1400, Until: 18})
	}
}

// P16.3: an Until is at most MaxTime; what is told at MaxTime is over as it is made, and there till the next call.
func TestNearMaxTime(t *testing.T) {
	for _, c := range []struct{ at, until int }{{maxTime - 11, maxTime - 1}, {maxTime - 10, maxTime}, {maxTime - 9, maxTime}, {maxTime - 1, maxTime}} {
		b := newBoth(t, 2, 10)
		wantTold(b, c.at, path(1), 1400, true)
		wantAll(b, c.at, api.PathEntry{Dst: path(1), MTU: 1400, Until: c.until})
		wantGet(b, c.until-1, path(1), 1400)
		wantGet(b, c.until, path(1), 1500)
		wantThere(b, 0, 0)
	}
	for _, life := range []int{1, 10, 1 << 31} {
		b := newBoth(t, 1, life)
		wantTold(b, maxTime, path(1), 1400, true)
		wantThere(b, 1, maxTime)
		wantTold(b, maxTime, path(1), 1450, true)
		wantThere(b, 1, maxTime)
		wantTold(b, maxTime, path(2), 1450, true)
		wantThere(b, 1, maxTime)
		wantGet(b, maxTime, path(2), 1500)
		wantThere(b, 0, 0)
		wantTold(b, maxTime, path(2), 1450, true)
		wantDrop(b, maxTime, path(2), false)
		wantTold(b, maxTime, path(2), 1450, true)
		wantAll(b, maxTime)
	}
}

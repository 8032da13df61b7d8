package pathmtu_test

import (
	"slices"
	"testing"

	"ferryman/api"
)

// there are the numbers of the paths that have entries.
func there(b both, now int) []int {
	b.t.Helper()
	l, _ := b.all(now)
	var out []int
	for _, x := range l {
		out = append(out, int(x.Dst[14])<<8|int(x.Dst[15]))
	}
	return out
}

func wantPaths(b both, now int, want ...int) {
	b.t.Helper()
	if got := there(b, now); !slices.Equal(got, want) {
		b.t.Errorf("at %d paths %v are there; want %v", now, got, want)
	}
}

// P16.3: of a full cache the entry with the least Until goes, whatever its address.
func TestFullByUntil(t *testing.T) {
	b := newBoth(t, 3, 100)
	wantTold(b, 0, path(9), 1400, true)
	wantTold(b, 1, path(5), 1400, true)
	wantTold(b, 2, path(7), 1400, true)
	wantTold(b, 3, path(1), 1400, true)
	wantPaths(b, 3, 1, 5, 7)
	wantTold(b, 3, path(8), 1400, true)
	wantPaths(b, 3, 1, 7, 8)
	// Told anew, an entry counts longer, and is not the next to go.
	wantTold(b, 4, path(7), 1300, true)
	wantPaths(b, 4, 1, 7, 8)
	wantTold(b, 5, path(6), 1400, true)
	wantPaths(b, 5, 6, 7, 8)
	wantTold(b, 5, path(2), 1400, true)
	wantPaths(b, 5, 2, 6, 7)
	wantTold(b, 5, path(3), 1400, true)
	wantPaths(b, 5, 2, 3, 6)
}

// P16.3: of alike Untils the lesser address goes, each of its bytes looked at, in whatever order they came.
func TestFullByAddress(t *testing.T) {
	low, high := api.Addr6{}, api.Addr6{}
	for place := range 16 {
		low[place], high[place] = 0x7f, 0x80
		for i := place + 1; i < 16; i++ {
			low[i], high[i] = 0xff, 0
		}
		for _, order := range [][]api.Addr6{{low, high}, {high, low}} {
			b := newBoth(t, 2, 100)
			wantTold(b, 0, order[0], 1400, true)
			wantTold(b, 0, order[1], 1300, true)
			wantTold(b, 0, api.Addr6{0, 1}, 1400, true)
			wantGet(b, 0, low, 1500)
			if n, _ := b.get(0, high); n == 1500 {
				t.Errorf("place %d: %v went", place, high)
			}
		}
		low[place], high[place] = 5, 5
	}
}

// P16.3: Untils that are alike because the time ends: addresses tell, though the entries came at unlike times.
func TestFullNearMaxTime(t *testing.T) {
	b := newBoth(t, 3, 100)
	wantTold(b, maxTime-101, path(9), 1400, true)
	wantTold(b, maxTime-60, path(3), 1400, true)
	wantTold(b, maxTime-50, path(2), 1400, true)
	wantTold(b, maxTime-40, path(5), 1400, true) // path 9 is over a millisecond earlier
	wantPaths(b, maxTime-40, 2, 3, 5)
	wantTold(b, maxTime-30, path(1), 1400, true)
	wantPaths(b, maxTime-30, 1, 3, 5)
	wantTold(b, maxTime-30, path(4), 1400, true)
	wantPaths(b, maxTime-30, 3, 4, 5)
	wantTold(b, maxTime-20, path(3), 1300, true)
	wantTold(b, maxTime-1, path(6), 1400, true)
	wantPaths(b, maxTime-1, 4, 5, 6)
	wantThere(b, 3, maxTime)
}

// P16.3: an entry makes no room that is not needed: one of that address there, what does not count, what is over, and a drop ahead.
func TestFullButRoom(t *testing.T) {
	full := func() both {
		b := newBoth(t, 3, 100)
		for i := range 3 {
			wantTold(b, i, path(i+1), 1400, true)
		}
		return b
	}
	for i := 1; i <= 3; i++ {
		b := full()
		wantTold(b, 5, path(i), 1300, true)
		wantPaths(b, 5, 1, 2, 3)
		wantGet(b, 5, path(i), 1300)
		b = full()
		wantTold(b, 5, path(i), 1400, false)
		wantPaths(b, 5, 1, 2, 3)
		b = full()
		wantDrop(b, 5, path(i), true)
		wantTold(b, 5, path(4), 1400, true)
		want := slices.DeleteFunc([]int{1, 2, 3, 4}, func(n int) bool { return n == i })
		wantPaths(b, 5, want...)
	}
	b := full()
	wantTold(b, 5, path(4), 1500, false)
	wantPaths(b, 5, 1, 2, 3)
	b = full()
	wantTold(b, 100, path(4), 1400, true)
	wantPaths(b, 100, 2, 3, 4)
	b = full()
	wantTold(b, 101, path(4), 1400, true)
	wantPaths(b, 101, 3, 4)
	b = full()
	if _, e := b.told(5, path(4), 65536); e != 131 {
		t.Errorf("%d", e)
	}
	wantPaths(b, 5, 1, 2, 3)
}

// P16.3: a cache of one entry: it is always the last one that was told.
func TestFullOfOne(t *testing.T) {
	b := newBoth(t, 1, 10)
	for i := range 30 {
		wantTold(b, i/7, path(i*7%30), 1400, true)
		wantPaths(b, i/7, i*7%30)
		wantThere(b, 1, i/7+10)
	}
}

// P16.3: the addresses that go, one by one, of 4096 that came in no order, with few Untils.
func TestFullOfMany(t *testing.T) {
	const limit = 4096
	r := dice()
	b := newBoth(t, limit, 1000)
	c := b.c
	type entry struct{ until, n int }
	var all []entry
	for i, n := range r.Perm(limit) {
		until := 1000 + i/500
		all = append(all, entry{until, n})
		if is, e := c.Told(i/500, path(n), 1400); !is || e != api.OK {
			t.Fatalf("%t, %d", is, e)
		}
	}
	slices.SortFunc(all, func(a, b entry) int { return (a.until-b.until)*limit + a.n - b.n })
	for i, x := range all {
		if m, _ := c.Get(20, path(x.n)); m != 1400 {
			t.Fatalf("%d: path %d went too early", i, x.n)
		}
		if is, e := c.Told(20, path(limit+i), 1400); !is || e != api.OK {
			t.Fatalf("%d: %t, %d", i, is, e)
		}
		if m, _ := c.Get(20, path(x.n)); m != 1500 || c.Len() != limit {
			t.Fatalf("%d: path %d stays: Len = %d", i, x.n, c.Len())
		}
		if next, _ := c.Next(); i+1 < limit && next != all[i+1].until {
			t.Fatalf("%d: Next = %d; want %d", i, next, all[i+1].until)
		}
	}
	if m, _ := c.Get(1019, path(limit)); m != 1400 || c.Len() != limit {
		t.Errorf("%d, Len = %d", m, c.Len())
	}
	if m, _ := c.Get(1020, path(limit)); m != 1500 || c.Len() != 0 {
		t.Errorf("%d, Len = %d", m, c.Len())
	}
}

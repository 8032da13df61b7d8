package pathmtu_test

import (
	"math"
	"slices"
	"testing"

	"ferryman/api"
	"ferryman/pathmtu"
)

// path is the address of the path of a number: lesser numbers have lesser addresses.
func path(n int) api.Addr6 { return api.Addr6{0x20, 1, 14: byte(n >> 8), 15: byte(n)} }

// wants are the promises of one call each, written out.

func wantGet(b both, now int, dst api.Addr6, want int) {
	b.t.Helper()
	if n, e := b.get(now, dst); n != want || e != api.OK {
		b.t.Errorf("Get(%d, %v) = %d, %d; want %d", now, dst, n, e, want)
	}
}

func wantTold(b both, now int, dst api.Addr6, mtu int, want bool) {
	b.t.Helper()
	if is, e := b.told(now, dst, mtu); is != want || e != api.OK {
		b.t.Errorf("Told(%d, %v, %d) = %t, %d; want %t", now, dst, mtu, is, e, want)
	}
}

func wantDrop(b both, now int, dst api.Addr6, want bool) {
	b.t.Helper()
	if is, e := b.drop(now, dst); is != want || e != api.OK {
		b.t.Errorf("Drop(%d, %v) = %t, %d; want %t", now, dst, is, e, want)
	}
}

func wantAll(b both, now int, want ...api.PathEntry) {
	b.t.Helper()
	if l, e := b.all(now); !slices.Equal(l, want) || e != api.OK {
		b.t.Errorf("All(%d) = %v, %d; want %v", now, l, e, want)
	}
}

// wantThere is Len and Next.
func wantThere(b both, n, next int) {
	b.t.Helper()
	at, is := b.c.Next()
	if b.c.Len() != n || at != next || is != (n > 0) {
		b.t.Errorf("Len = %d, Next = %d, %t; want %d, %d", b.c.Len(), at, is, n, next)
	}
}

// The chapter's example.
func TestExample(t *testing.T) {
	b := newBoth(t, 5, 600000)
	d := api.Addr6{0x20, 1, 0xd, 0xb8, 15: 9}
	wantTold(b, 0, d, 1400, true)
	wantGet(b, 5, d, 1400)
	wantTold(b, 6, d, 1450, false)
	wantTold(b, 7, d, 68, true)
	wantGet(b, 7, d, 1280)
	wantGet(b, 600006, d, 1280)
	wantGet(b, 600007, d, 1500)
}

// setting is a number of the settings, and whether it may be.
type setting struct {
	n     int
	mayBe bool
}

// links are Links beside a Least.
func links(least int) []setting {
	l := []setting{{math.MinInt, false}, {-1, false}, {0, false}, {67, false}, {65536, false}, {math.MaxInt, false}}
	if least < 68 || least > 65535 {
		return append(l, setting{least, false}, setting{1500, false}, setting{65535, false})
	}
	l = append(l, setting{least - 1, false}, setting{least, true}, setting{65535, true})
	if least < 65535 {
		l = append(l, setting{least + 1, true}, setting{65534, true})
	}
	return l
}

// P16.1: each setting at its edges, beside all others at theirs.
func TestNew(t *testing.T) {
	limits := []setting{{math.MinInt, false}, {-1, false}, {0, false}, {1, true}, {2, true}, {4095, true}, {4096, true}, {4097, false}, {math.MaxInt, false}}
	leasts := []setting{{math.MinInt, false}, {-1, false}, {0, false}, {67, false}, {68, true}, {69, true}, {1280, true}, {65534, true}, {65535, true}, {65536, false}, {math.MaxInt, false}}
	lives := []setting{{math.MinInt, false}, {-1, false}, {0, false}, {1, true}, {2, true}, {1<<31 - 1, true}, {1 << 31, true}, {1<<31 + 1, false}, {math.MaxInt, false}}
	for _, limit := range limits {
		for _, least := range leasts {
			for _, link := range links(least.n) {
				for _, life := range lives {
					conf := api.PathConf{Limit: limit.n, Least: least.n, Link: link.n, Life: life.n}
					testNew(t, conf, limit.mayBe && least.mayBe && link.mayBe && life.mayBe)
				}
			}
		}
	}
	testNew(t, api.PathConf{}, false)
}

func testNew(t *testing.T, conf api.PathConf, mayBe bool) {
	t.Helper()
	if !mayBe {
		if c, e := pathmtu.New(conf); c != nil || e != 160 {
			t.Errorf("New(%+v) = %p, %d; want 160", conf, c, e)
		}
		return
	}
	b := bothOf(t, conf)
	wantThere(b, 0, 0)
	wantGet(b, 0, path(1), conf.Link)
	wantDrop(b, 0, path(1), false)
	wantAll(b, 0)
	// The settings are those that were asked for.
	if conf.Link > conf.Least {
		wantTold(b, 0, path(1), conf.Link-1, true)
		wantTold(b, 0, path(2), 0, true)
		wantGet(b, 0, path(2), conf.Least)
		wantThere(b, min(2, conf.Limit), conf.Life)
	} else {
		wantTold(b, 0, path(1), 0, false)
		wantThere(b, 0, 0)
	}
}

// Rule 3: a cache that is nil or a zero struct, whatever it is asked.
func TestNobodyMade(t *testing.T) {
	for _, c := range []*pathmtu.Cache{nil, {}, new(pathmtu.Cache)} {
		for range 2 {
			for _, now := range []int{0, 1, maxTime, -1, maxTime + 1, math.MinInt, math.MaxInt} {
				if n, e := c.Get(now, path(1)); n != 0 || e != 4 {
					t.Errorf("Get at %d = %d, %d", now, n, e)
				}
				for _, mtu := range []int{1280, 0, 65535, -1, 65536} {
					if is, e := c.Told(now, path(1), mtu); is || e != 4 {
						t.Errorf("Told of %d at %d = %t, %d", mtu, now, is, e)
					}
				}
				if is, e := c.Drop(now, path(1)); is || e != 4 {
					t.Errorf("Drop at %d = %t, %d", now, is, e)
				}
				if l, e := c.All(now); len(l) != 0 || e != 4 {
					t.Errorf("All at %d = %v, %d", now, l, e)
				}
			}
			if n, is := c.Next(); n != 0 || is {
				t.Errorf("Next = %d, %t", n, is)
			}
			if n := c.Len(); n != 0 {
				t.Errorf("Len = %d", n)
			}
		}
		if c != nil && *c != (pathmtu.Cache{}) {
			t.Error("it changed")
		}
	}
}

// P16.2, P16.3: each MTU that may be told at settings near the edges, of a path without an entry.
func TestToldFirst(t *testing.T) {
	for _, conf := range []api.PathConf{{Least: 1280, Link: 1500}, {Least: 68, Link: 65535}, {Least: 68, Link: 68}, {Least: 68, Link: 69}, {Least: 65535, Link: 65535}, {Least: 65534, Link: 65535}} {
		conf.Limit, conf.Life = 3, 10
		for _, mtu := range []int{0, 1, 67, 68, 69, 1279, 1280, 1281, 1499, 1500, 1501, 65533, 65534, 65535} {
			b := bothOf(t, conf)
			m := max(mtu, conf.Least)
			wantTold(b, 5, path(1), mtu, m < conf.Link)
			if m < conf.Link {
				wantAll(b, 5, api.PathEntry{Dst: path(1), MTU: m, Until: 15})
			} else {
				wantAll(b, 5)
			}
			wantGet(b, 5, path(1), min(m, conf.Link))
			wantGet(b, 5, path(2), conf.Link)
		}
	}
}

// P16.3: an MTU below the entry's, of it, and above: what does not count changes nothing, its Until not either.
func TestToldAgain(t *testing.T) {
	for _, c := range []struct {
		mtu  int
		want bool
		then api.PathEntry
	}{
		{1400, false, api.PathEntry{MTU: 1400, Until: 10}},
		{1401, false, api.PathEntry{MTU: 1400, Until: 10}},
		{1499, false, api.PathEntry{MTU: 1400, Until: 10}},
		{1500, false, api.PathEntry{MTU: 1400, Until: 10}},
		{1501, false, api.PathEntry{MTU: 1400, Until: 10}},
		{65535, false, api.PathEntry{MTU: 1400, Until: 10}},
		{1399, true, api.PathEntry{MTU: 1399, Until: 14}},
		{1281, true, api.PathEntry{MTU: 1281, Until: 14}},
		{1280, true, api.PathEntry{MTU: 1280, Until: 14}},
		{1279, true, api.PathEntry{MTU: 1280, Until: 14}},
		{0, true, api.PathEntry{MTU: 1280, Until: 14}},
	} {
		b := newBoth(t, 1, 10)
		wantTold(b, 0, path(1), 1400, true)
		wantTold(b, 4, path(1), c.mtu, c.want)
		c.then.Dst = path(1)
		wantAll(b, 4, c.then)
	}
	// At Least nothing counts any more, an MTU below it not either.
	b := newBoth(t, 1, 10)
	wantTold(b, 0, path(1), 1280, true)
	for _, mtu := range []int{1280, 1279, 68, 0} {
		wantTold(b, 1, path(1), mtu, false)
	}
	wantAll(b, 9, api.PathEntry{Dst: path(1), MTU: 1280, Until: 10})
	wantTold(b, 10, path(1), 0, true)
	wantThere(b, 1, 20)
}

// ErrMTU: below 0 and above 65535; nothing changes then.
func TestWrongMTU(t *testing.T) {
	b := newBoth(t, 1, 10)
	wantTold(b, 3, path(1), 1400, true)
	for _, mtu := range []int{-1, 65536, math.MinInt, math.MaxInt} {
		for _, dst := range []api.Addr6{path(1), path(2)} {
			if is, e := b.told(3, dst, mtu); is || e != 131 {
				t.Errorf("Told of %d = %t, %d", mtu, is, e)
			}
		}
	}
	wantAll(b, 3, api.PathEntry{Dst: path(1), MTU: 1400, Until: 13})
}

// P16.4: Drop takes that entry and no other, and only once; behind it the path's MTU may be told anew.
func TestDrop(t *testing.T) {
	b := newBoth(t, 3, 10)
	for i := range 3 {
		wantTold(b, i, path(i), 1400-i, true)
	}
	wantDrop(b, 5, path(3), false)
	wantDrop(b, 5, path(1), true)
	wantDrop(b, 5, path(1), false)
	wantAll(b, 5, api.PathEntry{Dst: path(0), MTU: 1400, Until: 10}, api.PathEntry{Dst: path(2), MTU: 1398, Until: 12})
	wantGet(b, 5, path(1), 1500)
	wantTold(b, 6, path(1), 1499, true)
	wantGet(b, 6, path(1), 1499)
	wantDrop(b, 6, path(0), true)
	wantThere(b, 2, 12)
	wantDrop(b, 6, path(2), true)
	wantThere(b, 1, 16)
	wantDrop(b, 6, path(1), true)
	wantThere(b, 0, 0)
	wantDrop(b, 6, path(1), false)
}

// P16.4: entries are told by their addresses, byte by byte, the first byte ahead, whenever they came and how long they count.
func TestAllByAddress(t *testing.T) {
	var want []api.Addr6
	for place := 15; place >= 0; place-- {
		for _, x := range []byte{1, 0x7f, 0x80, 0xff} {
			a := api.Addr6{}
			a[place] = x
			want = append(want, a)
			if place < 15 {
				a[15] = 1
				want = append(want, a)
			}
		}
	}
	want = append(want, api.Addr6{0xff, 0xff, 0xff, 0xff, 0xff, 0xff, 0xff, 0xff, 0xff, 0xff, 0xff, 0xff, 0xff, 0xff, 0xff, 0xff})
	want = append([]api.Addr6{{}}, want...)
	r := dice()
	for run := range 20 {
		b := newBoth(t, 4096, 1000)
		for now, i := range r.Perm(len(want)) {
			wantTold(b, now*(run%3), want[i], 1280+r.IntN(220), true)
		}
		l, _ := b.all(300)
		if len(l) != len(want) {
			t.Fatalf("%d entries; want %d", len(l), len(want))
		}
		for i, a := range want {
			if l[i].Dst != a {
				t.Fatalf("place %d: %v; want %v", i, l[i].Dst, a)
			}
		}
	}
}

// P16.4: Next and Len ahead of and behind each call, behind calls that told an error too: what is over is there till a call takes it out.
func TestNextAndLen(t *testing.T) {
	b := newBoth(t, 4, 10)
	wantThere(b, 0, 0)
	wantTold(b, 0, path(5), 1400, true)
	wantThere(b, 1, 10)
	wantTold(b, 3, path(1), 1400, true)
	wantThere(b, 2, 10)
	wantTold(b, 6, path(5), 1300, true)
	wantThere(b, 2, 13)
	wantTold(b, 7, path(1), 1450, false)
	wantThere(b, 2, 13)
	for _, e := range errorsOf(b, 50) {
		if e == api.OK {
			t.Error("no error")
		}
		wantThere(b, 2, 13)
	}
	wantGet(b, 13, path(7), 1500)
	wantThere(b, 1, 16)
	wantDrop(b, 13, path(5), true)
	wantThere(b, 0, 0)
}

// errorsOf is what calls tell that tell errors: of times that may not be, and of an MTU that may not be, at a time.
func errorsOf(b both, now int) []api.Errno {
	b.t.Helper()
	var l []api.Errno
	for _, wrong := range []int{-1, maxTime + 1} {
		_, e := b.get(wrong, path(1))
		l = append(l, e)
		_, e = b.told(wrong, path(1), 1300)
		l = append(l, e)
		_, e = b.drop(wrong, path(1))
		l = append(l, e)
		_, e = b.all(wrong)
		l = append(l, e)
	}
	for _, mtu := range []int{-1, 65536} {
		_, e := b.told(now, path(1), mtu)
		l = append(l, e)
	}
	return l
}

package pathmtu_test

import (
	"math"
	"math/rand/v2"
	"testing"

	"ferryman/api"
	"ferryman/pathmtu"
)

// somePath is one of few paths; some have addresses that differ in their first bytes alone.
func somePath(r *rand.Rand, n int) api.Addr6 {
	a := path(r.IntN(n))
	if r.IntN(3) == 0 {
		a[r.IntN(16)] ^= 0x80
	}
	return a
}

// someConf is settings that may be, most of them with little room.
func someConf(r *rand.Rand) api.PathConf {
	c := api.PathConf{Limit: 1 + r.IntN(8), Least: 68 + r.IntN(3000), Life: 1 + r.IntN(60)}
	switch r.IntN(6) {
	case 0:
		c.Limit = 1 + r.IntN(4096)
	case 1:
		c.Life = 1 << r.IntN(32)
	case 2:
		c.Least = 65536 - 1<<r.IntN(10)
	}
	c.Link = min(65535, c.Least+r.IntN(40))
	if r.IntN(3) == 0 {
		c.Link = c.Least + r.IntN(65536-c.Least)
	}
	return c
}

// someMTU is most often between Least and Link, now and then one that may not be.
func someMTU(r *rand.Rand, c api.PathConf) int {
	switch r.IntN(12) {
	case 0:
		return []int{-1, 65536, math.MinInt, math.MaxInt}[r.IntN(4)]
	case 1:
		return r.IntN(65536)
	case 2:
		return []int{0, c.Least - 1, c.Least, c.Link - 1, c.Link, 65535}[r.IntN(6)]
	}
	return c.Least + r.IntN(c.Link-c.Least+1)
}

// someTime is the next time: most often not far on, often just the one at which an entry is over or one beside it, now and then one that may not be.
func someTime(r *rand.Rand, b both) int {
	now := b.m.now
	switch r.IntN(40) {
	case 0:
		return now - 1 - r.IntN(3)
	case 1:
		return []int{-1, math.MinInt, math.MaxInt, maxTime + 1}[r.IntN(4)]
	case 2, 3, 4:
		if next, is := b.c.Next(); is {
			return max(now, next-1+r.IntN(3))
		}
	case 5:
		return now + r.IntN(20)
	}
	return now + r.IntN(6)/4
}

// someCall makes one of all calls, held against the plain cache.
func someCall(r *rand.Rand, b both, paths int) (what string, e api.Errno) {
	b.t.Helper()
	now := someTime(r, b)
	switch r.IntN(10) {
	case 0:
		_, e = b.all(now)
		return "All", e
	case 1:
		is, e := b.drop(now, somePath(r, paths))
		if is {
			return "dropped", e
		}
		return "Drop", e
	case 2, 3:
		_, e = b.get(now, somePath(r, paths))
		return "Get", e
	}
	full := b.c.Len() == b.m.conf.Limit
	is, e := b.told(now, somePath(r, paths), someMTU(r, b.m.conf))
	if is && full {
		return "told of a full one", e
	}
	if is {
		return "told", e
	}
	return "Told", e
}

// P16.1 to P16.4, P16.6, rules 1 and 2: random runs of calls, wrong ones among them, held against the plain cache.
func TestRandom(t *testing.T) {
	r := dice()
	errs, whats := map[api.Errno]int{}, map[string]int{}
	for run := range 1500 {
		b := bothOf(t, someConf(r))
		if run%10 == 0 {
			b.all(maxTime - r.IntN(200)) // so that the time ends within the run
		}
		paths := 1 + r.IntN(3*b.m.conf.Limit)
		for range 200 {
			what, e := someCall(r, b, paths)
			errs[e]++
			if e == api.OK {
				whats[what]++
			}
		}
		b.all(b.m.now)
	}
	for _, e := range []api.Errno{0, 131, 153} {
		if errs[e] < 2000 {
			t.Errorf("%d only %d times", e, errs[e])
		}
	}
	for _, what := range []string{"All", "dropped", "Drop", "Get", "told of a full one", "told", "Told"} {
		if whats[what] < 2000 {
			t.Errorf("%s only %d times", what, whats[what])
		}
	}
}

// P16.5: as long as an entry counts, nobody drops it and it makes no room, Get of its path never rises, whatever is told.
func TestNeverUp(t *testing.T) {
	r := dice()
	falls, ends := 0, 0
	for range 300 {
		conf := someConf(r)
		conf.Limit = 4096
		c, _ := pathmtu.New(conf)
		was := map[api.Addr6]api.PathEntry{}
		for now := range 300 {
			dst := path(r.IntN(6))
			c.Told(now, dst, someMTU(r, conf))
			c.Told(now, path(r.IntN(6)), -1)
			m, e := c.Get(now, dst)
			old, is := was[dst]
			if e != api.OK || m < conf.Least || m > conf.Link {
				t.Fatalf("%d, %d", m, e)
			}
			if is && now < old.Until && m > old.MTU {
				t.Fatalf("at %d Get rises from %v to %d", now, old, m)
			}
			if is && m < old.MTU {
				falls++
			}
			if is && now >= old.Until {
				ends++
			}
			l, _ := c.All(now)
			clear(was)
			for _, x := range l {
				was[x.Dst] = x
			}
		}
	}
	if falls < 1000 {
		t.Errorf("Get fell only %d times", falls)
	}
	if ends < 100 {
		t.Errorf("only %d entries were over", ends)
	}
}

// P16.6: Get is from Least to Link, and Len at most Limit, of many paths and whatever is told.
func TestBounded(t *testing.T) {
	r := dice()
	for _, limit := range []int{1, 2, 64, 4096} {
		c, _ := pathmtu.New(api.PathConf{Limit: limit, Link: 1500, Life: 5000, Least: 1280})
		most := 0
		for i := range 60000 {
			dst := path(r.IntN(1 << 16))
			dst[3] = byte(i)
			c.Told(i/10, dst, r.IntN(2000)-200)
			for _, of := range []api.Addr6{dst, path(r.IntN(1 << 16))} {
				if m, e := c.Get(i/10, of); m < 1280 || m > 1500 || e != api.OK {
					t.Fatalf("%d, %d", m, e)
				}
			}
			if c.Len() > limit {
				t.Fatalf("Len = %d; Limit is %d", c.Len(), limit)
			}
			most = max(most, c.Len())
		}
		if most != limit {
			t.Errorf("Len = %d at most; Limit is %d", most, limit)
		}
	}
}

// P16.7: from its Until on an entry is as if it had never been: a cache that had it tells the same as one that had not, as long as there is room for all.
func TestForgotten(t *testing.T) {
	r := dice()
	over := 0
	for range 300 {
		conf := someConf(r)
		conf.Limit = 4096
		if conf.Life > 1000 {
			conf.Life = 1 + r.IntN(30)
		}
		had, _ := pathmtu.New(conf)
		never, _ := pathmtu.New(conf)
		for i := range 20 {
			if is, _ := had.Told(i%conf.Life/2, somePath(r, 9), someMTU(r, conf)); is {
				over++
			}
		}
		at := conf.Life + conf.Life/2
		for i := range 100 {
			now := at + i*conf.Life/30
			dst, mtu := somePath(r, 9), someMTU(r, conf)
			testAlike(t, had, never, now, dst, mtu, r.IntN(4))
		}
	}
	if over < 2000 {
		t.Errorf("only %d entries were over", over)
	}
}

// testAlike makes one call of two caches that tell the same.
func testAlike(t *testing.T, a, b *pathmtu.Cache, now int, dst api.Addr6, mtu, which int) {
	t.Helper()
	var one, two any
	var e, f api.Errno
	switch which {
	case 0:
		one, e = a.Get(now, dst)
		two, f = b.Get(now, dst)
	case 1, 2:
		one, e = a.Told(now, dst, mtu)
		two, f = b.Told(now, dst, mtu)
	default:
		one, e = a.Drop(now, dst)
		two, f = b.Drop(now, dst)
	}
	if one != two || e != f {
		t.Fatalf("at %d: %v, %d, and %v, %d", now, one, e, two, f)
	}
	if e != api.OK {
		return // nothing has changed, what is over is there as it was
	}
	n, is := a.Next()
	m, has := b.Next()
	if a.Len() != b.Len() || n != m || is != has {
		t.Fatalf("at %d: Len %d and %d, Next %d and %d", now, a.Len(), b.Len(), n, m)
	}
}

package pathmtu_test

import (
	"fmt"
	"math/rand/v2"
	"slices"
	"sort"
	"testing"

	"ferryman/api"
	"ferryman/pathmtu"
)

const maxTime = 1 << 40

func dice() *rand.Rand { return rand.New(rand.NewPCG(16, 7)) }

// plainEntry is what was told of a path: its address is a text of bytes, which Go holds against others byte by byte.
type plainEntry struct {
	dst   string
	mtu   int
	until int
}

// plain is a cache as the chapter's words tell one, written apart from the program: entries in no order, gone through from end to end for each question.
type plain struct {
	conf    api.PathConf
	now     int
	entries []plainEntry
}

// begin begins a call: fault is what it has to tell behind ErrTime.
func (m *plain) begin(now int, fault api.Errno) api.Errno {
	if now < 0 || now > 1<<40 || now < m.now {
		return 153
	}
	if fault != 0 {
		return fault
	}
	m.now = now
	var stay []plainEntry
	for _, x := range m.entries {
		if now < x.until {
			stay = append(stay, x)
		}
	}
	m.entries = stay
	return 0
}

// find is where the entry of a path is; -1: nowhere.
func (m *plain) find(dst string) int {
	for i, x := range m.entries {
		if x.dst == dst {
			return i
		}
	}
	return -1
}

func (m *plain) take(at int) {
	m.entries = append(m.entries[:at], m.entries[at+1:]...)
}

func (m *plain) mtu(dst string) int {
	if at := m.find(dst); at >= 0 {
		return m.entries[at].mtu
	}
	return m.conf.Link
}

func (m *plain) get(now int, dst string) (int, api.Errno) {
	if e := m.begin(now, 0); e != 0 {
		return 0, e
	}
	return m.mtu(dst), 0
}

func (m *plain) told(now int, dst string, mtu int) (bool, api.Errno) {
	var fault api.Errno
	if mtu < 0 || mtu > 65535 {
		fault = 131
	}
	if e := m.begin(now, fault); e != 0 {
		return false, e
	}
	if mtu < m.conf.Least {
		mtu = m.conf.Least
	}
	if mtu >= m.mtu(dst) {
		return false, 0
	}
	until := now + m.conf.Life
	if until > 1<<40 {
		until = 1 << 40
	}
	if at := m.find(dst); at >= 0 {
		m.entries[at] = plainEntry{dst, mtu, until}
		return true, 0
	}
	if len(m.entries) == m.conf.Limit {
		m.take(m.goes())
	}
	m.entries = append(m.entries, plainEntry{dst, mtu, until})
	return true, 0
}

// goes is which entry of a full cache goes.
func (m *plain) goes() int {
	best := 0
	for i, x := range m.entries {
		b := m.entries[best]
		if x.until < b.until || x.until == b.until && x.dst < b.dst {
			best = i
		}
	}
	return best
}

func (m *plain) drop(now int, dst string) (bool, api.Errno) {
	if e := m.begin(now, 0); e != 0 {
		return false, e
	}
	at := m.find(dst)
	if at >= 0 {
		m.take(at)
	}
	return at >= 0, 0
}

func (m *plain) all(now int) ([]api.PathEntry, api.Errno) {
	if e := m.begin(now, 0); e != 0 {
		return nil, e
	}
	sort.Slice(m.entries, func(i, k int) bool { return m.entries[i].dst < m.entries[k].dst })
	var l []api.PathEntry
	for _, x := range m.entries {
		l = append(l, api.PathEntry{Dst: api.Addr6([]byte(x.dst)), MTU: x.mtu, Until: x.until})
	}
	return l, 0
}

func (m *plain) next() (int, bool) {
	best, is := 0, false
	for _, x := range m.entries {
		if !is || x.until < best {
			best, is = x.until, true
		}
	}
	return best, is
}

// both is a cache and the plain one: each call is made of both, and what they tell held against each other.
type both struct {
	t *testing.T
	c *pathmtu.Cache
	m *plain
}

// newBoth is a cache with so much room and such a life, between 1280 and 1500.
func newBoth(t *testing.T, limit, life int) both {
	t.Helper()
	return bothOf(t, api.PathConf{Limit: limit, Link: 1500, Life: life, Least: 1280})
}

func bothOf(t *testing.T, conf api.PathConf) both {
	t.Helper()
	c, e := pathmtu.New(conf)
	if c == nil || e != api.OK {
		t.Fatalf("New(%+v): %d", conf, e)
	}
	b := both{t, c, &plain{conf: conf}}
	b.hold("New")
	return b
}

// hold holds what is to be seen of the cache at no time against the plain one.
func (b both) hold(call string) {
	b.t.Helper()
	if n := b.c.Len(); n != len(b.m.entries) || n > b.m.conf.Limit {
		b.t.Fatalf("%s: Len = %d; want %d", call, n, len(b.m.entries))
	}
	at, is := b.c.Next()
	if wantAt, wantIs := b.m.next(); at != wantAt || is != wantIs {
		b.t.Fatalf("%s: Next = %d, %t; want %d, %t", call, at, is, wantAt, wantIs)
	}
}

func (b both) get(now int, dst api.Addr6) (int, api.Errno) {
	b.t.Helper()
	want, wantE := b.m.get(now, string(dst[:]))
	got, e := b.c.Get(now, dst)
	call := fmt.Sprintf("Get(%d, %v)", now, dst)
	if got != want || e != wantE {
		b.t.Fatalf("%s = %d, %d; want %d, %d", call, got, e, want, wantE)
	}
	b.hold(call)
	return got, e
}

func (b both) told(now int, dst api.Addr6, mtu int) (bool, api.Errno) {
	b.t.Helper()
	want, wantE := b.m.told(now, string(dst[:]), mtu)
	got, e := b.c.Told(now, dst, mtu)
	call := fmt.Sprintf("Told(%d, %v, %d)", now, dst, mtu)
	if got != want || e != wantE {
		b.t.Fatalf("%s = %t, %d; want %t, %d", call, got, e, want, wantE)
	}
	b.hold(call)
	return got, e
}

func (b both) drop(now int, dst api.Addr6) (bool, api.Errno) {
	b.t.Helper()
	want, wantE := b.m.drop(now, string(dst[:]))
	got, e := b.c.Drop(now, dst)
	call := fmt.Sprintf("Drop(%d, %v)", now, dst)
	if got != want || e != wantE {
		b.t.Fatalf("%s = %t, %d; want %t, %d", call, got, e, want, wantE)
	}
	b.hold(call)
	return got, e
}

func (b both) all(now int) ([]api.PathEntry, api.Errno) {
	b.t.Helper()
	want, wantE := b.m.all(now)
	got, e := b.c.All(now)
	call := fmt.Sprintf("All(%d)", now)
	if !slices.Equal(got, want) || e != wantE {
		b.t.Fatalf("%s = %v, %d; want %v, %d", call, got, e, want, wantE)
	}
	b.hold(call)
	return got, e
}

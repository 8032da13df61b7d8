package join_test

import (
	"bytes"
	"math/rand/v2"
	"slices"
	"testing"

	"ferryman/api"
	"ferryman/ipv4"
	"ferryman/ipv6"
	"ferryman/join"
	"ferryman/split"
	"ferryman/splitsix"
)

func someBytes(r *rand.Rand, n int) []byte {
	b := make([]byte, n)
	for i := range b {
		b[i] = byte(r.Uint32())
	}
	return b
}

// made is a datagram and its fragments, of either kind.
type made struct {
	six  bool
	v4   api.V4
	v6   api.V6
	l4   []api.V4
	l6   []api.V6
	came map[int]int // the fragments that came since it was whole
}

func (m *made) count() int { return max(len(m.l4), len(m.l6)) }

// make4 is a datagram of IPv4 with so many bytes, split for an MTU.
func make4(t *testing.T, r *rand.Rand, id, n, mtu int) *made {
	t.Helper()
	v := api.V4{TOS: byte(r.Uint32()), TTL: byte(r.Uint32()), ID: uint16(id), Proto: 17, Options: []byte{148, 4, 0, 0, 7, 3, 4, 0}[:4*r.IntN(3)], Body: someBytes(r, n)}
	copy(v.Src[:], someBytes(r, 4))
	l, e := split.Split(v, mtu)
	if e != api.OK {
		t.Fatal(show4(v), mtu, e)
	}
	return &made{v4: v, l4: l, came: map[int]int{}}
}

// make6 is a datagram of IPv6 with so many bytes, split for an MTU.
func make6(t *testing.T, r *rand.Rand, id, n, mtu int) *made {
	t.Helper()
	v := api.V6{Class: byte(r.Uint32()), Hop: byte(r.Uint32()), Label: r.Uint32N(1 << 20), Proto: 17, Heads: heads(8 * r.IntN(4)), Body: someBytes(r, n)}
	copy(v.Src[:], someBytes(r, 16))
	l, e := splitsix.Split(v, mtu, uint32(id))
	if e != api.OK {
		t.Fatal(show6(v), mtu, e)
	}
	return &made{six: true, v6: v, l6: l, came: map[int]int{}}
}

// put puts one of a datagram's fragments: once all of them are there, and not earlier, it comes out as it was.
func (m *made) put(t *testing.T, j *join.Joiner, now, at int) bool {
	t.Helper()
	m.came[at]++
	want := len(m.came) == m.count()
	var is, same bool
	var e api.Errno
	if m.six {
		var w api.V6
		w, is, e = j.Put6(now, m.l6[at])
		same = ipv6.Same(w, m.v6)
	} else {
		var w api.V4
		w, is, e = j.Put4(now, m.l4[at])
		same = ipv4.Same(w, m.v4)
	}
	if e != api.OK || is != want || is && !same {
		t.Fatalf("fragment %d of %d, %d came: %t, %t, %d", at, m.count(), len(m.came), is, same, e)
	}
	if is {
		clear(m.came)
	}
	return is
}

// P15.5: fragments that split and splitsix make, of several datagrams at a time, in any order, each as often as you like, are the datagrams.
func TestSplitAndJoined(t *testing.T) {
	r := dice()
	for run := range 300 {
		j, _ := join.New(api.JoinConf{Most: 8, Timeout: 1 << 20})
		var all []*made
		var turns [][2]int
		for i := range 8 {
			n, mtu := 100+r.IntN(900), 68+r.IntN(200)
			if run%30 == 0 && i < 2 {
				n, mtu = 65000, 576+r.IntN(1500)
			}
			m := make4(t, r, i%2, n, mtu)
			if i%2 == 1 {
				m = make6(t, r, i%4, min(1300+r.IntN(6000)+n, 65500), 1280+mtu%100)
			}
			all = append(all, m)
			for at := range m.count() {
				for range 1 + r.IntN(3) {
					turns = append(turns, [2]int{i, at})
				}
			}
		}
		r.Shuffle(len(turns), func(a, b int) { turns[a], turns[b] = turns[b], turns[a] })
		wholes := make([]int, len(all))
		for now, x := range turns {
			if all[x[0]].put(t, j, now/10, x[1]) {
				wholes[x[0]]++
			}
		}
		if slices.Min(wholes) < 1 {
			t.Fatalf("%v", wholes)
		}
		open := 0
		for _, m := range all {
			if len(m.came) > 0 {
				open++
			}
		}
		if j.Open() != open {
			t.Fatalf("Open = %d; want %d", j.Open(), open)
		}
	}
}

// P15.5: each order of few fragments of both kinds, made by split and splitsix, with one of them twice.
func TestSplitInEveryOrder(t *testing.T) {
	r := dice()
	for _, m := range []*made{make4(t, r, 1, 150, 68), make6(t, r, 1, 5000, 1280)} {
		if m.count() < 3 || m.count() > 5 {
			t.Fatal(m.count())
		}
		orders(m.count(), func(order []int) {
			for twice := range len(order) - 1 {
				j, _ := join.New(api.JoinConf{Most: 1, Timeout: 1})
				for i, at := range order {
					if is := m.put(t, j, 0, at); is != (i == len(order)-1) {
						t.Fatalf("%v: %t", order, is)
					}
					if i == twice {
						m.put(t, j, 0, at)
					}
				}
			}
		})
	}
}

// P15.5: as many fragments as there may be, from the front, from the end and in any order; it must not take for ever.
func TestManyFragments(t *testing.T) {
	r := dice()
	body := someBytes(r, 65515)
	for turn := range 3 {
		j, _ := join.New(api.JoinConf{Most: 2, Timeout: 5})
		order := r.Perm(8190)
		if turn < 2 {
			slices.Sort(order)
		}
		if turn == 1 {
			slices.Reverse(order)
		}
		for i, at := range order {
			v := api.V4{Off: at, MF: at < 8189, Body: body[8*at : min(8*at+8, len(body))]}
			w, is, e := j.Put4(0, v)
			if is != (i == len(order)-1) || e != api.OK || is && !bytes.Equal(w.Body, body) {
				t.Fatalf("%d: %d: %t, %d", turn, i, is, e)
			}
		}
	}
}

// P15.6: as many datagrams as may wait at most, and many that come and go.
func TestBounded(t *testing.T) {
	r := dice()
	j, _ := join.New(api.JoinConf{Most: 4096, Timeout: 50})
	refused, late := 0, 0
	for i := range 60000 {
		p := part{id: r.IntN(8192), off: r.IntN(3), n: 8, more: true}
		var e api.Errno
		if i%2 == 0 {
			_, _, e = j.Put4(i/100, four(p))
		} else {
			_, _, e = j.Put6(i/100, six(p))
		}
		if e == api.ErrFull {
			refused++
		} else if e != api.OK {
			t.Fatal(e)
		}
		if j.Open() > 4096 || e == api.ErrFull && j.Open() != 4096 {
			t.Fatalf("Open = %d, %d", j.Open(), e)
		}
		if i%20000 == 19999 {
			l, _ := j.Tick(i / 100)
			late += len(l)
		}
	}
	if refused < 1000 || late < 4096 {
		t.Errorf("%d were refused, %d late", refused, late)
	}
}

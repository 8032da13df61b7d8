package join_test

import (
	"math"
	"math/rand/v2"
	"slices"
	"testing"

	"ferryman/api"
	"ferryman/ipv4"
	"ferryman/ipv6"
	"ferryman/join"
)

// somePart is a fragment of one of few datagrams: most of them may be, and stand near the front.
func somePart(r *rand.Rand) part {
	p := part{id: r.IntN(3), off: r.IntN(5), n: 8 * (1 + r.IntN(3)), more: true}
	switch r.IntN(12) {
	case 0, 1, 2:
		p.more, p.n = false, r.IntN(12)
	case 3:
		p.n = r.IntN(20)
	case 4:
		p.off, p.n, p.more = 8185+r.IntN(9), 8*r.IntN(5)+r.IntN(2)*7, r.IntN(2) == 0
	case 5:
		if r.IntN(4) == 0 {
			p.off, p.n, p.more = r.IntN(3), 65490+r.IntN(50), r.IntN(2) == 0
		}
	}
	return p
}

// gridPart is a fragment of one of few datagrams, whose fragments are always cut at the same places, so that many of them go together.
func gridPart(r *rand.Rand) part {
	at := r.IntN(4)
	if at == 3 {
		return part{id: r.IntN(3), off: 3, n: 5}
	}
	return part{id: r.IntN(3), off: at, n: 8, more: true}
}

// partOf is a fragment of either of these.
func partOf(r *rand.Rand) part {
	if r.IntN(3) == 0 {
		return somePart(r)
	}
	return gridPart(r)
}

// some4 is a fragment as a datagram of IPv4, now and then with other fields or another content.
func some4(r *rand.Rand) api.V4 {
	v := four(partOf(r))
	switch r.IntN(25) {
	case 0:
		v.Src[r.IntN(4)] ^= byte(r.IntN(2))
	case 1:
		v.Dst[r.IntN(4)] ^= byte(r.IntN(2))
	case 2:
		v.Proto ^= byte(r.IntN(2))
	case 3:
		v.Options = text(r.IntN(9), 4*r.IntN(11))
	case 4:
		v.TOS, v.TTL, v.DF = byte(r.Uint32()), byte(r.Uint32()), r.IntN(2) == 0
	case 5:
		if len(v.Body) > 0 {
			v.Body[r.IntN(len(v.Body))] ^= byte(1 + r.IntN(255))
		}
	case 6:
		v.Off = []int{-1, 8191, 8192, math.MinInt, math.MaxInt}[r.IntN(5)]
	case 7:
		v.Options = make([]byte, r.IntN(50))
	case 8:
		v.Off, v.MF = 0, false
	}
	return v
}

// some6 is the same of IPv6.
func some6(r *rand.Rand) api.V6 {
	v := six(partOf(r))
	switch r.IntN(25) {
	case 0:
		v.Src[r.IntN(16)] ^= byte(r.IntN(2))
	case 1:
		v.Dst[r.IntN(16)] ^= byte(r.IntN(2))
	case 2, 3, 4, 5:
		v.Proto = []byte{0, 43, 44, 60, 6}[r.IntN(5)]
		if len(v.Body) >= 8 {
			copy(v.Body, []byte{17, byte(r.IntN(4)), 0, 9})
		}
	case 6:
		v.Heads = heads(8 * r.IntN(20))
	case 7:
		v.Class, v.Label, v.Hop = byte(r.Uint32()), r.Uint32N(1<<20), byte(r.Uint32())
	case 8:
		if len(v.Body) > 0 {
			v.Body[r.IntN(len(v.Body))] ^= byte(1 + r.IntN(255))
		}
	case 9:
		v.Off = []int{-1, 8191, 8192, math.MinInt, math.MaxInt}[r.IntN(5)]
	case 10:
		v.Heads = []api.Head{{Kind: byte(r.IntN(64)), Body: make([]byte, r.IntN(24))}}
	case 11:
		v.Frag, v.ID, v.Off, v.More = false, 0, 0, false
	case 12:
		v.Frag = false
	case 13:
		v.Heads = heads(16384 + 8*r.IntN(2))
	}
	return v
}

// someTime is the next time: most often not far on, now and then one that may not be.
func someTime(r *rand.Rand, now int) int {
	switch r.IntN(60) {
	case 0:
		return now - 1 - r.IntN(3)
	case 1:
		return []int{-1, math.MinInt, math.MaxInt, maxTime + 1}[r.IntN(4)]
	case 2:
		return now + r.IntN(20)
	}
	return now + r.IntN(6)/5
}

// P15.2 to P15.4, P15.6, rules 1 and 2: random runs of calls, wrong ones among them, held against the plain joiner.
func TestRandom(t *testing.T) {
	r := dice()
	counts, wholes, lates := map[api.Errno]int{}, 0, 0
	for run := range 400 {
		b := newBoth(t, 1+r.IntN(7), 1+r.IntN(30))
		if run%10 == 0 {
			b.tick(maxTime - r.IntN(200)) // so that the time ends within the run
		}
		for range 200 {
			now := someTime(r, b.m.now)
			var e api.Errno
			var is bool
			switch r.IntN(9) {
			case 0:
				var l []api.Late
				l, e = b.tick(now)
				lates += len(l)
			case 1, 2, 3, 4:
				_, is, e = b.put4(now, some4(r))
			default:
				_, is, e = b.put6(now, some6(r))
			}
			counts[e]++
			if is {
				wholes++
			}
		}
	}
	for _, e := range []api.Errno{api.OK, api.ErrTime, api.ErrV4, api.ErrV6, api.ErrLong, api.ErrPiece, api.ErrFull, api.ErrOverlap} {
		if counts[e] < 100 {
			t.Errorf("%d only %d times", e, counts[e])
		}
	}
	if wholes < 2000 || lates < 1000 {
		t.Errorf("%d were whole, %d late", wholes, lates)
	}
}

// cut is the bytes of a datagram in random pieces; the last one may have none.
func cut(r *rand.Rand, id, n int) []part {
	var l []part
	at := 0
	for at < n {
		size := 8 * (1 + r.IntN(max(1, n/24)))
		if at+size > n {
			break
		}
		l = append(l, part{id: id, off: at / 8, n: size, more: true})
		at += size
	}
	return append(l, part{id: id, off: at / 8, n: n - at})
}

// P15.2: datagrams in pieces of random lengths, of which some are cut in two ways, so that they overlap, and whose pieces come in any order, twice or not at all.
func TestRandomCut(t *testing.T) {
	r := dice()
	counts, wholes := map[api.Errno]int{}, 0
	for run := range 400 {
		b := newBoth(t, 1+r.IntN(6), 1+r.IntN(100))
		var l []part
		for id := range 6 {
			n := 1 + r.IntN(300)
			if run%40 == 0 && id == 0 {
				n = 65500 + r.IntN(36)
			}
			l = append(l, cut(r, id, n)...)
			if r.IntN(4) == 0 {
				l = append(l, cut(r, id, n)...)
			}
		}
		if r.IntN(2) == 0 {
			r.Shuffle(len(l), func(i, k int) { l[i], l[k] = l[k], l[i] })
		} else {
			slices.Reverse(l)
		}
		k := kinds()[r.IntN(2)]
		for _, p := range l {
			for range 1 + r.IntN(6)/4 - r.IntN(12)/11 {
				_, is, e := k.put(b, b.m.now+r.IntN(4)/3, p)
				counts[e]++
				if is {
					wholes++
				}
			}
			if r.IntN(20) == 0 {
				b.tick(b.m.now)
			}
		}
	}
	if wholes < 400 || counts[api.ErrOverlap] < 200 || counts[api.ErrFull] < 200 {
		t.Errorf("%d were whole, %v", wholes, counts)
	}
}

// P15.7: what is told of one datagram is the same, whatever comes of others between, as long as there is room for all.
func TestRandomApart(t *testing.T) {
	r := dice()
	wholes := 0
	for range 300 {
		c := api.JoinConf{Most: 4096, Timeout: 1 + r.IntN(30)}
		alone, _ := join.New(c)
		among, _ := join.New(c)
		now := 0
		for range 200 {
			now += r.IntN(6) / 5
			v, w := some4(r), some6(r)
			mine := v.Src == four(part{}).Src && v.Dst == four(part{}).Dst && v.Proto == 17 && v.ID == 1
			got, is, e := among.Put4(now, v)
			if mine {
				want, wantIs, wantE := alone.Put4(now, v)
				if !ipv4.Same(got, want) || is != wantIs || e != wantE {
					t.Fatalf("%s: %s, %t, %d; alone %s, %t, %d", show4(v), show4(got), is, e, show4(want), wantIs, wantE)
				}
			}
			mine = w.Src == six(part{}).Src && w.Dst == six(part{}).Dst && w.ID == 1
			got6, is6, e := among.Put6(now, w)
			if mine {
				want, wantIs, wantE := alone.Put6(now, w)
				if !ipv6.Same(got6, want) || is6 != wantIs || e != wantE {
					t.Fatalf("%s: %s, %t, %d; alone %s, %t, %d", show6(w), show6(got6), is6, e, show6(want), wantIs, wantE)
				}
				if is6 {
					wholes++
				}
			}
			if r.IntN(40) == 0 {
				alone.Tick(now)
				among.Tick(now)
			}
		}
	}
	if wholes < 100 {
		t.Errorf("%d were whole", wholes)
	}
}

// Rule 5: the same calls of two joiners tell the same.
func TestAgain(t *testing.T) {
	for range 3 {
		var runs [2][]string
		for i := range runs {
			r := dice()
			b := newBoth(t, 3, 20)
			for range 2000 {
				now := b.m.now + r.IntN(6)/5
				v, is, e := b.put4(now, some4(r))
				w, is6, e6 := b.put6(now, some6(r))
				runs[i] = append(runs[i], show4(v), show6(w), e.Error(), e6.Error())
				if is || is6 {
					runs[i] = append(runs[i], "whole")
				}
			}
		}
		if !slices.Equal(runs[0], runs[1]) {
			t.Error("two runs are not the same")
		}
	}
}

package join_test

import (
	"bytes"
	"testing"

	"ferryman/api"
	"ferryman/join"
)

// changed is a change of a fragment of either kind, by which its bytes and MF stay as they are.
type changed struct {
	name string
	four func(v *api.V4)
	six  func(v *api.V6)
}

// P15.2: the same fragment once more, also with other fields beside its bytes and MF, is nothing more; the one that came first stays.
func TestTwice(t *testing.T) {
	same := []changed{
		{"as it is", func(*api.V4) {}, func(*api.V6) {}},
		{"traffic class", func(v *api.V4) { v.TOS = 9 }, func(v *api.V6) { v.Class = 9 }},
		{"hops", func(v *api.V4) { v.TTL = 9 }, func(v *api.V6) { v.Hop = 9 }},
		{"DF, label", func(v *api.V4) { v.DF = true }, func(v *api.V6) { v.Label = 9 }},
		{"options, heads", func(v *api.V4) { v.Options = []byte{1, 1, 1, 1} }, func(v *api.V6) { v.Heads = []api.Head{{Kind: 60, Body: make([]byte, 14)}} }},
		{"proto of six", func(*api.V4) {}, func(v *api.V6) { v.Proto = 6 }},
	}
	for _, c := range same {
		for _, first := range []part{{off: 0, n: 8, more: true}, {off: 1, n: 8, more: true}, {off: 2, n: 3}, {off: 2, n: 0}} {
			b := newBoth(t, 2, 10)
			v, w := four(first), six(first)
			b.put4(0, v)
			b.put6(1, w)
			c.four(&v)
			c.six(&w)
			for range 3 {
				if _, is, e := b.put4(2, v); is || e != api.OK {
					t.Fatalf("%s: %s: %t, %d", c.name, show4(v), is, e)
				}
				if _, is, e := b.put6(2, w); is || e != api.OK {
					t.Fatalf("%s: %s: %t, %d", c.name, show6(w), is, e)
				}
			}
			testWaits(b, 2, 2*first.n)
			testNext(b, 10, true)
			l, _ := b.tick(11)
			if len(l) != 2 || l[0].First != (first.off == 0) || l[0].First && (l[0].V4.TTL != 64 || l[1].V6.Hop != 64 || l[0].V4.Options != nil || len(l[1].V6.Heads) != 0) {
				t.Errorf("%s: %+v", c.name, l)
			}
		}
	}
}

// P15.2: the same place with another content, another length or another MF gives all up.
func TestSamePlace(t *testing.T) {
	each(t, func(t *testing.T, k kind) {
		for _, c := range []struct{ first, second part }{
			{part{off: 1, n: 8, more: true}, part{off: 1, n: 8}},
			{part{off: 1, n: 8}, part{off: 1, n: 8, more: true}},
			{part{off: 1, n: 8, more: true}, part{off: 1, n: 16, more: true}},
			{part{off: 1, n: 16, more: true}, part{off: 1, n: 8, more: true}},
			{part{off: 1, n: 5}, part{off: 1, n: 6}},
			{part{off: 1, n: 6}, part{off: 1, n: 5}},
			{part{off: 1, n: 0}, part{off: 1, n: 5}},
			{part{off: 1, n: 5}, part{off: 1, n: 0}},
			{part{off: 1, n: 0}, part{off: 1, n: 8, more: true}},
			{part{off: 1, n: 8, more: true}, part{off: 1, n: 0}},
			{part{off: 0, n: 8, more: true}, part{off: 0, n: 16, more: true}},
		} {
			b := newBoth(t, 1, 10)
			testPut(b, k, 0, c.first, false, api.OK)
			testPut(b, k, 0, c.second, false, api.ErrOverlap)
			testWaits(b, 0, 0)
		}
	})
	for at := range 8 {
		b := newBoth(t, 2, 10)
		v, w := four(part{off: 1, n: 8, more: true}), six(part{off: 1, n: 8, more: true})
		b.put4(0, v)
		b.put6(0, w)
		v.Body, w.Body = bytes.Clone(v.Body), bytes.Clone(w.Body)
		v.Body[at] ^= 1
		w.Body[at] ^= 128
		if _, _, e := b.put4(0, v); e != api.ErrOverlap {
			t.Errorf("byte %d: %d", at, e)
		}
		testWaits(b, 1, 8)
		if _, _, e := b.put6(0, w); e != api.ErrOverlap {
			t.Errorf("byte %d: %d", at, e)
		}
		testWaits(b, 0, 0)
	}
}

// P15.2: overlaps ahead, behind, within and around; two fragments without MF; bytes behind the end.
func TestOverlap(t *testing.T) {
	each(t, func(t *testing.T, k kind) {
		there := part{off: 4, n: 32, more: true}
		for _, p := range []part{
			{off: 3, n: 16, more: true}, {off: 1, n: 56, more: true}, // ahead, and around
			{off: 7, n: 16, more: true}, {off: 7, n: 1}, // behind
			{off: 5, n: 8, more: true}, {off: 4, n: 8, more: true}, {off: 7, n: 8, more: true}, // within
			{off: 4, n: 40, more: true}, {off: 3, n: 40, more: true}, {off: 3, n: 48, more: true}, // around
			{off: 3, n: 8}, {off: 3, n: 0}, {off: 4, n: 0}, {off: 5, n: 0}, {off: 7, n: 0}, {off: 1, n: 7}, // bytes stand behind the end
		} {
			b := newBoth(t, 1, 10)
			testPut(b, k, 0, there, false, api.OK)
			testPut(b, k, 0, p, false, api.ErrOverlap)
			b = newBoth(t, 1, 10)
			testPut(b, k, 0, p, false, api.OK)
			testPut(b, k, 0, there, false, api.ErrOverlap)
			testWaits(b, 0, 0)
		}
		for _, p := range []part{{off: 3, n: 8, more: true}, {off: 0, n: 32, more: true}, {off: 8, n: 8, more: true}, {off: 8, n: 1}, {off: 8, n: 0}, {off: 9, n: 0}, {off: 100, n: 9}} {
			b := newBoth(t, 1, 10)
			testPut(b, k, 0, there, false, api.OK)
			testPut(b, k, 0, p, false, api.OK)
			b = newBoth(t, 1, 10)
			testPut(b, k, 0, p, false, api.OK)
			testPut(b, k, 0, there, false, api.OK)
			testWaits(b, 1, 32+p.n)
		}
		for _, p := range []part{{off: 2, n: 8}, {off: 5, n: 8}, {off: 4, n: 0}, {off: 3, n: 0}, {off: 1, n: 0}} { // a second one without MF
			b := newBoth(t, 1, 10)
			testPut(b, k, 0, part{off: 3, n: 8}, false, api.OK)
			testPut(b, k, 0, p, false, api.ErrOverlap)
			testWaits(b, 0, 0)
		}
	})
}

// P15.2: each two and each three small fragments, in each order.
func TestEveryFew(t *testing.T) {
	var l []part
	for off := range 4 {
		for n := 0; n <= 24; n += 8 {
			if n > 0 && off*8+n <= 32 {
				l = append(l, part{off: off, n: n, more: true})
			}
			if n <= 8 {
				l = append(l, part{off: off, n: n}, part{off: off, n: n + 5})
			}
		}
	}
	each(t, func(t *testing.T, k kind) {
		wholes := 0
		j := newBoth(t, 1, 10).j
		for _, p := range l {
			for _, q := range l {
				for _, r := range l {
					b := both{t, j, &plain{conf: api.JoinConf{Most: 1, Timeout: 10}}}
					for _, x := range []part{p, q, r} {
						if _, is, _ := k.put(b, 0, x); is {
							wholes++
						}
					}
					j = emptied(b)
				}
			}
		}
		if wholes < 100 {
			t.Errorf("%d were whole", wholes)
		}
	})
}

// emptied is a joiner for which nothing waits: a new one, where something waits for the old one.
func emptied(b both) *join.Joiner {
	if b.j.Open() == 0 {
		return b.j
	}
	return newBoth(b.t, 1, 10).j
}

// P15.2, P15.5: a gap is closed by the last one that comes, whichever it is: each order of five fragments.
func TestEveryOrder(t *testing.T) {
	l := []part{{off: 0, n: 16, more: true}, {off: 2, n: 8, more: true}, {off: 3, n: 24, more: true}, {off: 6, n: 8, more: true}, {off: 7, n: 5}}
	each(t, func(t *testing.T, k kind) {
		n := 0
		orders(len(l), func(order []int) {
			n++
			b := newBoth(t, 1, 10)
			for i, at := range order[:4] {
				testPut(b, k, i, l[at], false, api.OK)
				testPut(b, k, i, l[order[i/2]], false, api.OK)
			}
			testNext(b, 10, true)
			whole, is, e := k.put(b, 4, l[order[4]])
			if !bytes.Equal(whole, text(0, 61)) || !is || e != api.OK {
				t.Fatalf("%v: %d bytes, %t, %d", order, len(whole), is, e)
			}
			testWaits(b, 0, 0)
		})
		if n != 120 {
			t.Error(n)
		}
	})
}

// orders hands on each order of so many numbers.
func orders(n int, take func([]int)) {
	var rest func(done []int)
	rest = func(done []int) {
		if len(done) == n {
			take(done)
			return
		}
		for i := range n {
			if bytes.IndexByte(asBytes(done), byte(i)) < 0 {
				rest(append(done[:len(done):len(done)], i))
			}
		}
	}
	rest(nil)
}

func asBytes(l []int) []byte {
	b := make([]byte, len(l))
	for i, x := range l {
		b[i] = byte(x)
	}
	return b
}

// P15.2: a whole datagram whose end has no bytes of its own.
func TestEmptyEnd(t *testing.T) {
	each(t, func(t *testing.T, k kind) {
		for _, order := range [][]int{{0, 1}, {1, 0}} {
			l := []part{{off: 0, n: 16, more: true}, {off: 2, n: 0}}
			b := newBoth(t, 1, 10)
			testPut(b, k, 0, l[order[0]], false, api.OK)
			whole, is, e := k.put(b, 0, l[order[1]])
			if !bytes.Equal(whole, text(0, 16)) || !is || e != api.OK {
				t.Errorf("%d bytes, %t, %d", len(whole), is, e)
			}
		}
	})
}

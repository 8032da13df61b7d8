package join_test

import (
	"bytes"
	"reflect"
	"testing"

	"ferryman/api"
	"ferryman/ipv4"
	"ferryman/ipv6"
	"ferryman/join"
)

// lists4 and lists6 are all lists of bytes of a datagram.
func lists4(v api.V4) [][]byte { return [][]byte{v.Options, v.Body} }

func lists6(v api.V6) [][]byte {
	l := [][]byte{v.Body}
	for _, h := range v.Heads {
		l = append(l, h.Body)
	}
	return l
}

// spoil writes to all that lists have room for.
func spoil(l [][]byte) {
	for _, b := range l {
		b = b[:cap(b)]
		for i := range b {
			b[i] ^= 0xff
		}
	}
}

func spoil4(v api.V4) { spoil(lists4(v)) }

func spoil6(v api.V6) {
	spoil(lists6(v))
	l := v.Heads[:cap(v.Heads)]
	for i := range l {
		l[i] = api.Head{Kind: 99}
	}
}

// roomy is a copy of bytes with others behind them, so that one who appends is seen.
func roomy(b []byte) []byte {
	return append(bytes.Clone(b), 1, 2, 3, 4, 5, 6, 7, 8)[:len(b)]
}

func roomy4(v api.V4) api.V4 {
	v.Options, v.Body = roomy(v.Options), roomy(v.Body)
	return v
}

func roomy6(v api.V6) api.V6 {
	l := make([]api.Head, 0, len(v.Heads)+2)
	for _, h := range v.Heads {
		l = append(l, api.Head{Kind: h.Kind, Body: roomy(h.Body)})
	}
	v.Heads, v.Body = l, roomy(v.Body)
	return v
}

// all is the bytes of lists, with what stands behind them.
func all(l [][]byte) [][]byte {
	var out [][]byte
	for _, b := range l {
		out = append(out, bytes.Clone(b[:cap(b)]))
	}
	return out
}

// spoiling is a joiner whose user writes to all that was handed in and to all that was answered, behind each call.
type spoiling struct {
	t *testing.T
	j *join.Joiner
}

// put4 is a Put4 of a copy, of which all is spoilt behind it; the answer is a copy of the answer.
func (s spoiling) put4(now int, v api.V4) (api.V4, bool, api.Errno) {
	s.t.Helper()
	given := roomy4(v)
	was := all(lists4(given))
	w, is, e := s.j.Put4(now, given)
	if !reflect.DeepEqual(all(lists4(given)), was) || !ipv4.Same(given, v) {
		s.t.Fatalf("%s: what was handed in changed", show4(v))
	}
	spoil4(given)
	told := w
	told.Options, told.Body = bytes.Clone(w.Options), bytes.Clone(w.Body)
	spoil4(w)
	return told, is, e
}

func (s spoiling) put6(now int, v api.V6) (api.V6, bool, api.Errno) {
	s.t.Helper()
	given := roomy6(v)
	was, heads := all(lists6(given)), append([]api.Head{}, given.Heads[:cap(given.Heads)]...)
	w, is, e := s.j.Put6(now, given)
	if !reflect.DeepEqual(all(lists6(given)), was) || !reflect.DeepEqual(given.Heads[:cap(given.Heads)], heads) || !ipv6.Same(given, v) {
		s.t.Fatalf("%s: what was handed in changed", show6(v))
	}
	spoil6(given)
	told := copy6(w)
	spoil6(w)
	return told, is, e
}

// rich4 and rich6 are fragments with lists of all kinds.
func rich4(p part) api.V4 {
	v := four(p)
	v.Options = []byte{148, 4, 5, 6, 1, 1, 1, 0}
	return v
}

func rich6(p part) api.V6 {
	v := six(p)
	v.Heads = []api.Head{{Kind: 0, Body: text(1, 6)}, {Kind: 60, Body: text(2, 14)}}
	return v
}

// Rule 4: what is handed in stays as it is and is not kept, and an answer is its holder's: whoever writes to either changes nothing that waits, nor another answer.
func TestMemory(t *testing.T) {
	l := []part{{id: 1, n: 16, more: true}, {id: 1, off: 2, n: 8, more: true}, {id: 1, off: 3, n: 5}}
	orders(len(l), func(order []int) {
		j, _ := join.New(api.JoinConf{Most: 4, Timeout: 10})
		s := spoiling{t, j}
		for i, at := range order {
			for range 3 - i { // once more: only the first one is kept, and the last one makes it whole
				v, is, e := s.put4(0, rich4(l[at]))
				want := rich4(part{id: 1, n: 29})
				if is != (i == 2) || e != api.OK || is && !ipv4.Same(v, want) {
					t.Fatalf("%v: %s, %t, %d", order, show4(v), is, e)
				}
				w, is, e := s.put6(0, rich6(l[at]))
				want6 := rich6(part{id: 1, n: 29})
				want6.Frag, want6.ID = false, 0
				if is != (i == 2) || e != api.OK || is && !ipv6.Same(w, want6) {
					t.Fatalf("%v: %s, %t, %d", order, show6(w), is, e)
				}
			}
		}
		if j.Open() != 0 || j.Bytes() != 0 {
			t.Errorf("%d, %d", j.Open(), j.Bytes())
		}
	})
}

// Rule 4: what is no fragment is told as a copy.
func TestMemoryOfNoFragment(t *testing.T) {
	j, _ := join.New(api.JoinConf{Most: 4, Timeout: 10})
	v, w := roomy4(rich4(part{n: 9})), roomy6(rich6(part{n: 9}))
	w.Frag = false
	got, _, _ := j.Put4(0, v)
	got6, _, _ := j.Put6(0, w)
	spoil4(v)
	spoil6(w)
	want := rich6(part{n: 9})
	want.Frag = false
	if !ipv4.Same(got, rich4(part{n: 9})) || !ipv6.Same(got6, want) {
		t.Errorf("%s, %s", show4(got), show6(got6))
	}
	v, w = roomy4(rich4(part{n: 9})), roomy6(want)
	got, _, _ = j.Put4(0, v)
	got6, _, _ = j.Put6(0, w)
	spoil4(got)
	spoil6(got6)
	if !ipv4.Same(v, rich4(part{n: 9})) || !ipv6.Same(w, want) {
		t.Errorf("%s, %s", show4(v), show6(w))
	}
}

// Rule 4: an IPv6 datagram that is read again, and one whose fragment header is its own, share nothing either.
func TestMemoryOfReadAgain(t *testing.T) {
	j, _ := join.New(api.JoinConf{Most: 4, Timeout: 10})
	s := spoiling{t, j}
	v := api.V6{Frag: true, ID: 3, Proto: 60, Body: []byte{17, 0, 1, 2, 3, 4, 5, 6, 'a', 'b'}, Heads: []api.Head{{Kind: 60, Body: text(0, 6)}}}
	want := api.V6{Proto: 17, Body: []byte("ab"), Heads: []api.Head{{Kind: 60, Body: text(0, 6)}, {Kind: 60, Body: []byte{1, 2, 3, 4, 5, 6}}}}
	for range 2 {
		if w, is, e := s.put6(0, v); !ipv6.Same(w, want) || !is || e != api.OK {
			t.Errorf("%s, %t, %d", show6(w), is, e)
		}
	}
}

// Rule 4: what is late is told as it came, whatever was written to what was handed in; and who writes to it changes nothing.
func TestMemoryOfLate(t *testing.T) {
	j, _ := join.New(api.JoinConf{Most: 4, Timeout: 10})
	s := spoiling{t, j}
	first, second := part{id: 1, n: 8, more: true}, part{id: 2, n: 8, more: true}
	s.put4(0, rich4(first))
	s.put6(0, rich6(first))
	s.put4(5, rich4(second))
	s.put6(5, rich6(second))
	for turn, p := range []part{first, second} {
		l, e := j.Tick(10 + 5*turn)
		if len(l) != 2 || e != api.OK {
			t.Fatalf("%+v, %d", l, e)
		}
		if !ipv4.Same(l[0].V4, rich4(p)) || !ipv6.Same(l[1].V6, rich6(p)) {
			t.Errorf("%d: %s, %s", turn, show4(l[0].V4), show6(l[1].V6))
		}
		spoil4(l[0].V4)
		if !ipv6.Same(l[1].V6, rich6(p)) {
			t.Errorf("%d: one answer's lists are another's", turn)
		}
		spoil6(l[1].V6)
	}
}

// Rule 4: nil and empty lists are the same.
func TestNilAndEmpty(t *testing.T) {
	for _, empty := range [][]byte{nil, {}} {
		b := newBoth(t, 2, 10)
		v := four(part{off: 1})
		v.Options, v.Body = empty, empty
		w := six(part{off: 1})
		w.Body = empty
		b.put4(0, v)
		b.put6(0, w)
		w.Heads = []api.Head{}
		v.Body, w.Body = []byte{}, nil
		v.Options = nil
		b.put4(0, v)
		b.put6(0, w)
		testWaits(b, 2, 0)
		testPut(b, kinds()[0], 0, part{n: 8, more: true}, true, api.OK)
		testPut(b, kinds()[1], 0, part{n: 8, more: true}, true, api.OK)
	}
}

// Rule 5: two joiners know nothing of one another.
func TestTwoJoiners(t *testing.T) {
	a, b := newBoth(t, 1, 10), newBoth(t, 1, 20)
	each(t, func(t *testing.T, k kind) {
		testPut(a, k, 50, part{id: 1, off: 1, n: 3}, false, api.OK)
		testWaits(b, 0, 0)
		testPut(b, k, 7, part{id: 1, n: 8, more: true}, false, api.OK)
		testNext(a, 60, true)
		testNext(b, 27, true)
		testPut(a, k, 50, part{id: 1, n: 8, more: true}, true, api.OK)
		testWaits(b, 1, 8)
		testPut(b, k, 7, part{id: 1, n: 16, more: true}, false, api.ErrOverlap)
	})
}

// The document says nothing of a joiner that is copied: the copy is that joiner, and no call of either panics.
func TestCopy(t *testing.T) {
	b := newBoth(t, 2, 10)
	other := *b.j
	c := both{t, &other, b.m}
	k := kinds()[0]
	testPut(b, k, 0, part{id: 1, off: 1, n: 3}, false, api.OK)
	testPut(c, k, 5, part{id: 2, off: 1, n: 3}, false, api.OK)
	testPut(b, k, 4, part{id: 3, off: 1, n: 3}, false, api.ErrTime)
	testPut(c, k, 5, part{id: 1, n: 8, more: true}, true, api.OK)
	b.tick(15)
	testWaits(c, 0, 0)
}

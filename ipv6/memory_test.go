package ipv6_test

import (
	"bytes"
	"reflect"
	"testing"

	"ferryman/api"
	"ferryman/ipv6"
)

// spoil writes to all that a list has room for.
func spoil(b []byte) {
	b = b[:cap(b)]
	for i := range b {
		b[i] ^= 0xff
	}
}

// spoilHeads writes to all that a list of heads has room for, but not to their Bodies.
func spoilHeads(l []api.Head) {
	l = l[:cap(l)]
	for i := range l {
		l[i] = api.Head{Kind: 99}
	}
}

// lists are all lists of bytes of a datagram.
func lists(v api.V6) [][]byte {
	l := [][]byte{v.Body}
	for _, h := range v.Heads {
		l = append(l, h.Body)
	}
	return l
}

// lent is a copy of bytes with room behind it, so that one who appends is seen, and a function that tells whether all of it is as it was.
func lent(b []byte) ([]byte, func() bool) {
	store := append(bytes.Clone(b), 1, 2, 3, 4, 5, 6, 7, 8)
	was := bytes.Clone(store)
	return store[:len(b)], func() bool { return bytes.Equal(store, was) }
}

// lentV6 is a copy of a datagram all of whose lists have room behind them, and a function that tells whether all of it is as it was.
func lentV6(v api.V6) (api.V6, func() bool) {
	body, same := lent(v.Body)
	all := []func() bool{same}
	heads := make([]api.Head, 0, len(v.Heads)+2)
	for _, h := range v.Heads {
		b, same := lent(h.Body)
		heads, all = append(heads, api.Head{Kind: h.Kind, Body: b}), append(all, same)
	}
	was := append([]api.Head{}, heads[:cap(heads)]...)
	v.Heads, v.Body = heads, body
	return v, func() bool {
		for _, same := range all {
			if !same() {
				return false
			}
		}
		return reflect.DeepEqual(heads[:cap(heads)], was)
	}
}

// Rule 4: datagrams that are handed in stay as they are, and answers share nothing with them or each other.
func TestMemoryOfDatagrams(t *testing.T) {
	r := dice()
	for range 500 {
		v := someV6(r)
		given, same := lentV6(v)
		other, sameOther := lentV6(v)
		ipv6.Check(given)
		ipv6.Size(given)
		ipv6.Same(given, other)
		b, _ := ipv6.Write(given)
		c, _ := ipv6.Write(given)
		spoil(b)
		if !same() || !sameOther() {
			t.Fatalf("what was handed in changed: %+v", given)
		}
		for _, l := range lists(given) {
			spoil(l)
		}
		spoilHeads(given.Heads)
		if !bytes.Equal(c, plainBytes(v)) {
			t.Fatalf("an answer changed: % x", c)
		}
	}
}

// Rule 4: one that may not be stays as it is too.
func TestMemoryOfWrong(t *testing.T) {
	wrong := withHeads(60, 0, 17)
	wrong.Heads[1].Body = []byte{1, 2, 3}
	given, same := lentV6(wrong)
	ipv6.Check(given)
	ipv6.Size(given)
	ipv6.Write(given)
	ipv6.Same(given, given)
	if !same() {
		t.Errorf("what was handed in changed: %+v", given)
	}
}

// Rule 4: bytes that are handed in stay as they are, and answers share nothing with them or each other.
func TestMemoryOfBytes(t *testing.T) {
	r := dice()
	for _, read := range []func([]byte) (api.V6, int, api.Errno){ipv6.Parse, ipv6.Part} {
		for range 500 {
			v := someV6(r)
			b, same := lent(plainBytes(v))
			x, _, _ := read(b)
			y, _, _ := read(b)
			read(b[:len(b)/2])
			want := lists(copied(v))
			for i, l := range lists(x) {
				spoil(l)
				for k, later := range lists(x)[i+1:] {
					if !bytes.Equal(later, want[i+1+k]) {
						t.Fatalf("list %d changed with list %d: %+v", i+1+k, i, x)
					}
				}
			}
			spoilHeads(x.Heads)
			if !same() {
				t.Fatalf("what was handed in changed: % x", b)
			}
			spoil(b)
			if !like(y, v) {
				t.Fatalf("an answer changed: %+v", y)
			}
		}
	}
}

// Rules 4 and 5: nothing is kept: whatever went ahead, the same is answered.
func TestNothingIsKept(t *testing.T) {
	v := framed(withHeads(0, 43), 5)
	b := plainBytes(v)
	for _, ahead := range [][]byte{nil, {0x45}, make([]byte, 40), b[:40], b[:50], bytes.Repeat([]byte{0x60}, 70), plainBytes(withHeads(60, 60, 60))} {
		ipv6.Parse(ahead)
		ipv6.Part(ahead)
		if w, at, e := ipv6.Parse(b); !like(w, v) || at != 0 || e != api.OK {
			t.Errorf("behind % x: %+v, %d, %d", ahead, w, at, e)
		}
		if w, at, e := ipv6.Part(b[:len(b)-3]); len(w.Body) != 0 || len(w.Heads) != 2 || !w.Frag || at != 0 || e != api.OK {
			t.Errorf("behind % x: %+v, %d, %d", ahead, w, at, e)
		}
	}
}

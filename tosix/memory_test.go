package tosix_test

import (
	"bytes"
	"testing"

	"ferryman/api"
	"ferryman/tosix"
)

// spoil writes to all that a list has room for.
func spoil(b []byte) {
	b = b[:cap(b)]
	for i := range b {
		b[i] ^= 0xff
	}
}

// lent is a copy of bytes with room behind it, so that one who appends is seen, and a function that tells whether all of it is as it was.
func lent(b []byte) ([]byte, func() bool) {
	store := append(bytes.Clone(b), 1, 2, 3, 4, 5, 6, 7, 8)
	was := bytes.Clone(store)
	return store[:len(b)], func() bool { return bytes.Equal(store, was) }
}

// Rule 4: what is handed in to Packet and Tells stays as it is, and answers share nothing with it or each other.
func TestMemoryOfPacket(t *testing.T) {
	r := dice()
	made := map[byte]int{}
	for range 5000 {
		v := someV4(r, 60)
		if r.IntN(3) == 0 {
			m := someError(r, 60)
			v = message(m.Type, m.Code, m.Rest, m.Body)
		}
		want, wantE := plainPacket(v, outer, inner)
		var sameBody, sameOptions func() bool
		v.Body, sameBody = lent(v.Body)
		v.Options, sameOptions = lent(v.Options)
		x, e := tosix.Packet(v, outer, inner)
		y, _ := tosix.Packet(v, outer, inner)
		tosix.Tells(v)
		spoil(x.Body)
		if !sameBody() || !sameOptions() || int(e) != wantE {
			t.Fatalf("%s: what was handed in changed, or told %d; want %d", show4(v), e, wantE)
		}
		spoil(v.Body)
		spoil(v.Options)
		if !like(y, want) {
			t.Fatalf("%s: an answer changed: %s", show4(v), show6(y))
		}
		if e == api.OK {
			made[v.Proto]++
		}
	}
	if made[1] < 100 || made[6] < 100 || made[17] < 100 {
		t.Errorf("only %v", made)
	}
}

// Rule 4: the same of messages.
func TestMemoryOfMessage(t *testing.T) {
	r := dice()
	made := 0
	for range 5000 {
		m := someError(r, 60)
		if r.IntN(3) == 0 {
			m.Type = byte(8 * r.IntN(2))
		}
		want, wantE := plainMessage(m, inner)
		var same func() bool
		m.Body, same = lent(m.Body)
		x, e := tosix.Message(m, inner)
		y, _ := tosix.Message(m, inner)
		spoil(x.Body)
		if !same() || int(e) != wantE {
			t.Fatalf("%s: what was handed in changed, or told %d; want %d", showMessage(m), e, wantE)
		}
		spoil(m.Body)
		if !likeMessage(y, want) {
			t.Fatalf("%s: an answer changed: %s", showMessage(m), showMessage(y))
		}
		if e == api.OK {
			made++
		}
	}
	if made < 1000 {
		t.Errorf("only %d", made)
	}
}

// Rule 4: the same of what is inside, cut off at any place.
func TestMemoryOfInside(t *testing.T) {
	for _, v := range insides() {
		whole := bytesOf(v, 4)
		for n := range len(whole) + 1 {
			want, wantE := plainInside(whole[:n], inner)
			b, same := lent(whole[:n])
			x, e := tosix.Inside(b, inner)
			y, _ := tosix.Inside(b, inner)
			spoil(x)
			if !same() || int(e) != wantE {
				t.Fatalf("%x: what was handed in changed, or told %d; want %d", b, e, wantE)
			}
			spoil(b)
			if !bytes.Equal(y, want) {
				t.Fatalf("%x: an answer changed: %x", whole[:n], y)
			}
		}
	}
}

// Rule 4: nil and empty lists are the same.
func TestNilAndEmpty(t *testing.T) {
	for _, empty := range [][]byte{nil, {}, make([]byte, 0, 9)} {
		for _, proto := range []byte{1, 6, 17, 47, 58} {
			v := datagram(proto, empty)
			v.Options = empty
			for _, v := range append(kindsOfFragment(v), v) {
				holdPacket(t, v, outer, inner)
				holdTells(t, v)
			}
		}
		for _, kind := range []byte{0, 3, 5, 8, 11, 12} {
			holdMessage(t, api.Icmp{Type: kind, Body: empty}, inner)
		}
		wantNoInside(t, empty, api.ErrInner)
	}
}

// Rule 5: nothing is kept: whatever went ahead, the same is answered.
func TestNothingIsKept(t *testing.T) {
	r := dice()
	v := datagram(17, rightBody(17, ends4, bytes.Repeat([]byte{7}, 30)))
	failed := message(3, 4, 1400, bytesOf(v, 0))
	for range 500 {
		other := someWrong(r, someV4(r, 60))
		tosix.Packet(other, someEnds(r), someEnds(r))
		tosix.Tells(other)
		tosix.Message(someError(r, 60), someEnds(r))
		tosix.Inside(bytesOf(someV4(r, 60), 0), someEnds(r))
		for _, v := range []api.V4{v, failed} {
			holdPacket(t, v, outer, inner)
			holdTells(t, v)
			holdInside(t, bytesOf(v, 0), inner)
		}
		holdMessage(t, api.Icmp{Type: 11, Body: bytesOf(v, 0)}, inner)
	}
}

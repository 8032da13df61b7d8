package tofour_test

import (
	"bytes"
	"testing"

	"ferryman/api"
	"ferryman/tofour"
)

// spoil writes to all that a list has room for.
func spoil(b []byte) {
	b = b[:cap(b)]
	for i := range b {
		b[i] ^= 0xff
	}
}

// lent is a copy of bytes with room behind it, so that one who appends is seen, and a function that tells whether all of it is as it was.
func lent(b []byte) ([]byte, func() bool) {
	store := append(bytes.Clone(b), 1, 2, 3, 4, 5, 6, 7, 8)
	was := bytes.Clone(store)
	return store[:len(b)], func() bool { return bytes.Equal(store, was) }
}

// lentPacket is a copy of a datagram whose lists have room behind them, and a function that tells whether all of it is as it was.
func lentPacket(v api.V6) (api.V6, func() bool) {
	body, sameBody := lent(v.Body)
	same := []func() bool{sameBody}
	heads := make([]api.Head, 0, len(v.Heads)+1)
	for _, h := range v.Heads {
		b, sameHead := lent(h.Body)
		heads, same = append(heads, api.Head{Kind: h.Kind, Body: b}), append(same, sameHead)
	}
	was := v
	v.Heads, v.Body = heads, body
	return v, func() bool {
		for i, h := range heads {
			if h.Kind != was.Heads[i].Kind || len(h.Body) != len(was.Heads[i].Body) {
				return false
			}
		}
		for _, is := range same {
			if !is() {
				return false
			}
		}
		behind := heads[:len(heads)+1][len(heads)]
		return behind.Kind == 0 && behind.Body == nil
	}
}

// Rule 4: what is handed in to Packet and Tells stays as it is, and answers share nothing with it or each other.
func TestMemoryOfPacket(t *testing.T) {
	r := dice()
	made := map[byte]int{}
	for range 5000 {
		v := someV6(r, 60)
		if r.IntN(3) == 0 {
			m := someError(r, 60)
			v = message(m.Type, m.Code, m.Rest, m.Body)
		}
		want, wantE := plainPacket(v, outer, inner)
		v, same := lentPacket(v)
		x, e := tofour.Packet(v, outer, inner)
		y, _ := tofour.Packet(v, outer, inner)
		tofour.Tells(v)
		spoil(x.Body)
		if !same() || int(e) != wantE {
			t.Fatalf("%s: what was handed in changed, or told %d; want %d", show6(v), e, wantE)
		}
		spoil(v.Body)
		for _, h := range v.Heads {
			spoil(h.Body)
		}
		if !like(y, want) {
			t.Fatalf("%s: an answer changed: %s", show6(v), show4(y))
		}
		if e == api.OK {
			made[v.Proto]++
		}
	}
	if made[58] < 100 || made[6] < 100 || made[17] < 100 {
		t.Errorf("only %v", made)
	}
}

// Rule 4: the same of messages.
func TestMemoryOfMessage(t *testing.T) {
	r := dice()
	made := 0
	for range 5000 {
		m := someError(r, 60)
		if r.IntN(3) == 0 {
			m.Type = byte(128 + r.IntN(2))
		}
		want, wantE := plainMessage(m, inner)
		want.Body = bytes.Clone(want.Body)
		var same func() bool
		m.Body, same = lent(m.Body)
		x, e := tofour.Message(m, inner)
		y, _ := tofour.Message(m, inner)
		spoil(x.Body)
		if !same() || int(e) != wantE {
			t.Fatalf("%s: what was handed in changed, or told %d; want %d", showMessage(m), e, wantE)
		}
		spoil(m.Body)
		if !likeMessage(y, want) {
			t.Fatalf("%s: an answer changed: %s", showMessage(m), showMessage(y))
		}
		if e == api.OK {
			made++
		}
	}
	if made < 1000 {
		t.Errorf("only %d", made)
	}
}

// Rule 4: the same of what is inside, cut off at any place.
func TestMemoryOfInside(t *testing.T) {
	for _, v := range insides() {
		all := bytesOf(v, 4)
		for n := range len(all) + 1 {
			want, wantE := plainInside(all[:n], inner)
			b, same := lent(all[:n])
			x, e := tofour.Inside(b, inner)
			y, _ := tofour.Inside(b, inner)
			spoil(x)
			if !same() || int(e) != wantE {
				t.Fatalf("%x: what was handed in changed, or told %d; want %d", b, e, wantE)
			}
			spoil(b)
			if !bytes.Equal(y, want) {
				t.Fatalf("%x: an answer changed: %x", all[:n], y)
			}
		}
	}
}

// Rule 4: nil and empty lists are the same.
func TestNilAndEmpty(t *testing.T) {
	for _, empty := range [][]byte{nil, {}, make([]byte, 0, 9)} {
		for _, heads := range [][]api.Head{nil, {}, make([]api.Head, 0, 3)} {
			for _, proto := range []byte{1, 6, 17, 47, 58} {
				for _, v := range kinds(withHeads(datagram(proto, empty), heads...)) {
					holdPacket(t, v, outer, inner)
					holdTells(t, v)
				}
			}
		}
		for _, kind := range []byte{0, 1, 2, 3, 4, 128, 129} {
			holdMessage(t, api.Icmp{Type: kind, Body: empty}, inner)
		}
		wantNoInside(t, empty, api.ErrInner)
	}
}

// Rule 5: nothing is kept: whatever went ahead, the same is answered.
func TestNothingIsKept(t *testing.T) {
	r := dice()
	v := datagram(17, rightBody(17, ends6, bytes.Repeat([]byte{7}, 30)))
	failed := message(2, 0, 1400, bytesOf(v, 0))
	for range 500 {
		other := someWrong(r, someV6(r, 60))
		tofour.Packet(other, someEnds(r), someEnds(r))
		tofour.Tells(other)
		tofour.Message(someError(r, 60), someEnds(r))
		tofour.Inside(bytesOf(someV6(r, 60), 0), someEnds(r))
		for _, v := range []api.V6{v, failed} {
			holdPacket(t, v, outer, inner)
			holdTells(t, v)
			holdInside(t, bytesOf(v, 0), inner)
		}
		holdMessage(t, api.Icmp{Type: 3, Body: bytesOf(v, 0)}, inner)
	}
}

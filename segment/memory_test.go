package segment_test

import (
	"bytes"
	"testing"

	"ferryman/api"
	"ferryman/segment"
)

// spoil writes to all that a list has room for.
func spoil(b []byte) {
	b = b[:cap(b)]
	for i := range b {
		b[i] ^= 0xff
	}
}

// lent is a copy of bytes with room behind it, so that one who appends is seen, and a function that tells whether all of it is as it was.
func lent(b []byte) ([]byte, func() bool) {
	store := append(bytes.Clone(b), 1, 2, 3, 4, 5, 6, 7, 8)
	was := bytes.Clone(store)
	return store[:len(b)], func() bool { return bytes.Equal(store, was) }
}

// Rule 4: what is written stays as it is, and its bytes share nothing with it or each other.
func TestMemoryOfWrite(t *testing.T) {
	r := dice()
	for range 300 {
		for _, n := range networks(r) {
			u, s := someUDP(r), someTCP(r)
			wantUDP, wantTCP := plainUDP(n, u), plainTCP(n, s)
			var same, sameOptions, sameData func() bool
			u.Data, same = lent(u.Data)
			s.Options, sameOptions = lent(s.Options)
			s.Data, sameData = lent(s.Data)
			b, _ := n.writeUDP(u)
			c, _ := n.writeUDP(u)
			d, _ := n.writeTCP(s)
			f, _ := n.writeTCP(s)
			n.writeTCP(api.TCP{Flags: 64, Options: s.Options, Data: s.Data})
			segment.SameUDP(u, u)
			segment.SameTCP(s, s)
			spoil(b)
			spoil(d)
			if !same() || !sameOptions() || !sameData() {
				t.Fatalf("what was handed in changed: %+v, %+v", u, s)
			}
			spoil(u.Data)
			spoil(s.Options)
			spoil(s.Data)
			if !bytes.Equal(c, wantUDP) || !bytes.Equal(f, wantTCP) {
				t.Fatalf("an answer changed: % x, % x", c, f)
			}
		}
	}
}

// Rule 4: bytes that are read stay as they are, and answers share nothing with them or each other.
func TestMemoryOfParse(t *testing.T) {
	r := dice()
	for range 300 {
		for _, n := range networks(r) {
			u, s := someUDP(r), someTCP(r)
			b, same := lent(plainUDP(n, u))
			c, sameTCP := lent(plainTCP(n, s))
			v, _, _ := n.parseUDP(b)
			w, _, _ := n.parseUDP(b)
			x, _ := n.parseTCP(c)
			y, _ := n.parseTCP(c)
			n.parseUDP(b[:len(b)-1])
			n.parseTCP(c[:len(c)-1])
			spoil(v.Data)
			spoil(x.Options)
			if !bytes.Equal(x.Data, s.Data) {
				t.Fatalf("the Data changed with the Options: % x", x.Data)
			}
			spoil(x.Data)
			if !same() || !sameTCP() {
				t.Fatalf("what was handed in changed: % x, % x", b, c)
			}
			spoil(b)
			spoil(c)
			if !likeUDP(w, u) || !likeTCP(y, s) {
				t.Fatalf("an answer changed: %+v, %+v", w, y)
			}
		}
	}
}

// Rule 4: what is clamped stays as it is, and the answer shares nothing with it, turned or not.
func TestMemoryOfClamp(t *testing.T) {
	r := dice()
	for range 300 {
		for _, most := range []int{-1, 0, 500, 1460, 70000} {
			for _, flags := range []uint8{2, 16} {
				s := someTCP(r)
				s.Flags, s.Options = flags, []byte{1, 2, 4, 5, 0xb4, 0, 0, 0}
				var sameOptions, sameData func() bool
				given := s
				given.Options, sameOptions = lent(s.Options)
				given.Data, sameData = lent(s.Data)
				segment.MSS(given)
				a, _ := segment.Clamp(given, most)
				b, _ := segment.Clamp(given, most)
				want, _ := segment.Clamp(s, most)
				spoil(a.Options)
				if !bytes.Equal(a.Data, s.Data) {
					t.Fatalf("the Data changed with the Options: % x", a.Data)
				}
				spoil(a.Data)
				if !sameOptions() || !sameData() {
					t.Fatalf("what was handed in changed: %+v", given)
				}
				spoil(given.Options)
				spoil(given.Data)
				if !likeTCP(b, want) {
					t.Fatalf("an answer changed: %+v", b)
				}
			}
		}
	}
}

// Rule 4: what is rewritten stays as it is, also where one list is handed in as several, and the answer shares nothing with it.
func TestMemoryOfRewrite(t *testing.T) {
	r := dice()
	for range 300 {
		for _, proto := range []uint8{api.ProtoTCP, api.ProtoUDP, api.ProtoICMP} {
			for _, n := range []int{0, 3, 4, 7, 8, 17, 18, 40} {
				raw := someBytes(r, n)
				b, same := lent(raw)
				from, sameFrom := lent(someBytes(r, 8))
				to, sameTo := lent(someBytes(r, 8))
				want, _ := plainRewrite(proto, raw, from, to, 1, 2)
				segment.Ports(proto, b)
				x, _ := segment.Rewrite(proto, b, from, to, 1, 2)
				y, _ := segment.Rewrite(proto, b, from, to, 1, 2)
				segment.Rewrite(proto, b, from, to[:5], 1, 2)
				spoil(x)
				if !same() || !sameFrom() || !sameTo() {
					t.Fatalf("what was handed in changed: % x, % x, % x", b, from, to)
				}
				spoil(b)
				spoil(from)
				spoil(to)
				if !bytes.Equal(y, want) {
					t.Fatalf("an answer changed: % x", y)
				}
			}
		}
		b, same := lent(someBytes(r, 40))
		want, _ := plainRewrite(api.ProtoTCP, b, bytes.Clone(b[:8]), bytes.Clone(b[8:16]), 1, 2)
		got, e := segment.Rewrite(api.ProtoTCP, b, b[:8], b[8:16], 1, 2)
		if !bytes.Equal(got, want) || e != api.OK || !same() {
			t.Fatalf("of its own bytes: % x, %d; want % x", got, e, want)
		}
	}
}

// Rules 4 and 5: nothing is kept: whatever went ahead, the same is answered.
func TestNothingIsKept(t *testing.T) {
	r := dice()
	for _, n := range networks(r) {
		u, s := someUDP(r), someTCP(r)
		b, c := plainUDP(n, u), plainTCP(n, s)
		for _, ahead := range [][]byte{nil, {1}, make([]byte, 8), make([]byte, 20), b[:8], c[:20], bytes.Repeat([]byte{0x50}, 70)} {
			n.parseUDP(ahead)
			n.parseTCP(ahead)
			segment.MSS(api.TCP{Flags: 2, Options: ahead})
			segment.Clamp(api.TCP{Flags: 2, Options: ahead}, -1)
			segment.Rewrite(api.ProtoTCP, ahead, ahead, ahead, 1, 2)
			if v, none, e := n.parseUDP(b); !likeUDP(u, v) || none || e != api.OK {
				t.Errorf("behind % x: %+v, %t, %d", ahead, v, none, e)
			}
			if v, e := n.parseTCP(c); !likeTCP(s, v) || e != api.OK {
				t.Errorf("behind % x: %+v, %d", ahead, v, e)
			}
		}
	}
}

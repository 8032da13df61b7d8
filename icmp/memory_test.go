package icmp_test

import (
	"bytes"
	"testing"

	"ferryman/api"
	"ferryman/icmp"
)

// spoil writes to all that a list has room for.
func spoil(b []byte) {
	b = b[:cap(b)]
	for i := range b {
		b[i] ^= 0xff
	}
}

// lent is a copy of bytes with room behind it, so that one who appends is seen, and a function that tells whether all of it is as it was.
func lent(b []byte) ([]byte, func() bool) {
	store := append(bytes.Clone(b), 1, 2, 3, 4, 5, 6, 7, 8)
	was := bytes.Clone(store)
	return store[:len(b)], func() bool { return bytes.Equal(store, was) }
}

// Rule 4: what is written stays as it is, and its bytes share nothing with it or each other.
func TestMemoryOfWrite(t *testing.T) {
	r := dice()
	for range 500 {
		for _, n := range networks(r) {
			m := someMessage(r)
			want := plainBytes(n, m)
			var same func() bool
			m.Body, same = lent(m.Body)
			b, _ := n.write(m)
			c, _ := n.write(m)
			n.kind(m)
			icmp.Ident(m)
			icmp.Same(m, m)
			spoil(b)
			if !same() {
				t.Fatalf("what was handed in changed: %+v", m)
			}
			spoil(m.Body)
			if !bytes.Equal(c, want) {
				t.Fatalf("an answer changed: % x", c)
			}
		}
	}
}

// Rule 4: bytes that are read stay as they are, and answers share nothing with them or each other.
func TestMemoryOfParse(t *testing.T) {
	r := dice()
	for range 500 {
		for _, n := range networks(r) {
			m := someMessage(r)
			b, same := lent(plainBytes(n, m))
			x, _ := n.parse(b)
			y, _ := n.parse(b)
			n.parse(b[:len(b)-1])
			n.parse(b[:7])
			spoil(x.Body)
			if !same() {
				t.Fatalf("what was handed in changed: % x", b)
			}
			spoil(b)
			if !like(y, m) {
				t.Fatalf("an answer changed: %+v", y)
			}
		}
	}
}

// Rule 4: a message that is given an identifier stays as it is, and the answer shares nothing with it, also if the identifier is its own.
func TestMemoryOfWithIdent(t *testing.T) {
	r := dice()
	for range 500 {
		m := someMessage(r)
		for _, id := range []uint16{0, 65535, 7, icmp.Ident(m)} {
			given := m
			var same func() bool
			given.Body, same = lent(m.Body)
			was := given
			x, y := icmp.WithIdent(given, id), icmp.WithIdent(given, id)
			want := icmp.WithIdent(m, id)
			spoil(x.Body)
			if !same() || given.Rest != was.Rest {
				t.Fatalf("what was handed in changed: %+v", given)
			}
			spoil(given.Body)
			if !like(y, want) || !bytes.Equal(y.Body, m.Body) {
				t.Fatalf("an answer changed: %+v", y)
			}
		}
	}
}

// Rule 4: a packet stays as it is, and the errors that tell of it share nothing with it or each other.
func TestMemoryOfError(t *testing.T) {
	r := dice()
	for _, n := range networks(r) {
		for kind := api.IcmpOther; kind <= api.IcmpParam; kind++ {
			for _, size := range []int{0, 1, 28, 547, 548, 549, 1231, 1232, 1233, 2000} {
				raw := someBytes(r, size)
				packet, same := lent(raw)
				x, _ := n.fault(kind, 1, 2, packet)
				y, _ := n.fault(kind, 1, 2, packet)
				want, _ := plainError(n, kind, 1, 2, raw)
				spoil(x.Body)
				if !same() {
					t.Fatalf("%s, kind %d: what was handed in changed", n.name, kind)
				}
				spoil(packet)
				if !like(y, want) {
					t.Fatalf("%s, kind %d: an answer changed", n.name, kind)
				}
			}
		}
	}
}

// Rules 4 and 5: nothing is kept: whatever went ahead, the same is answered.
func TestNothingIsKept(t *testing.T) {
	r := dice()
	for _, n := range networks(r) {
		m := someMessage(r)
		b := plainBytes(n, m)
		other := networks(r)
		for _, ahead := range [][]byte{nil, {1}, make([]byte, 8), b[:8], b[:len(b)-1], make([]byte, 65536), bytes.Repeat([]byte{0xff}, 70)} {
			for _, o := range other {
				o.parse(ahead)
				o.write(api.Icmp{Type: 1, Body: ahead})
				o.fault(api.IcmpUnreach, 4, 5, ahead)
				o.fault(api.IcmpAsk, 4, 5, ahead)
			}
			icmp.WithIdent(api.Icmp{Body: ahead}, 5)
			if v, e := n.parse(b); !like(v, m) || e != api.OK {
				t.Errorf("behind %d bytes: %+v, %d", len(ahead), v, e)
			}
			if c, e := n.write(m); !bytes.Equal(c, b) || e != api.OK {
				t.Errorf("behind %d bytes: % x, %d", len(ahead), c, e)
			}
			testError(t, n, api.IcmpBig, 0, 1280, b)
		}
	}
}

package ipv4_test

import (
	"bytes"
	"testing"

	"ferryman/api"
	"ferryman/ipv4"
)

// spoil writes to all that a list has room for.
func spoil(b []byte) {
	b = b[:cap(b)]
	for i := range b {
		b[i] ^= 0xff
	}
}

// lent is a copy of bytes with room behind it, so that one who appends is seen, and a function that tells whether all of it is as it was.
func lent(b []byte) ([]byte, func() bool) {
	store := append(bytes.Clone(b), 1, 2, 3, 4, 5, 6, 7, 8)
	was := bytes.Clone(store)
	return store[:len(b)], func() bool { return bytes.Equal(store, was) }
}

// Rule 4: datagrams that are handed in stay as they are, and answers share nothing with them or each other.
func TestMemoryOfDatagrams(t *testing.T) {
	r := dice()
	for range 300 {
		v := someV4(r)
		v.TTL = 9
		options, sameOptions := lent(v.Options)
		body, sameBody := lent(v.Body)
		given := v
		given.Options, given.Body = options, body
		want := v
		want.TTL = 8

		ipv4.Check(given)
		ipv4.Size(given)
		ipv4.Same(given, given)
		b, _ := ipv4.Write(given)
		c, _ := ipv4.Write(given)
		h, _ := ipv4.Hop(given)
		k, _ := ipv4.Hop(given)
		spoil(b)
		spoil(h.Options)
		if !bytes.Equal(h.Body, v.Body) {
			t.Fatalf("Hop's Body changed with its Options: %x", h.Body)
		}
		spoil(h.Body)
		if !sameOptions() || !sameBody() {
			t.Fatalf("what was handed in changed: %+v", given)
		}
		spoil(options)
		spoil(body)
		if !bytes.Equal(c, plainBytes(v)) || !like(k, want) {
			t.Fatalf("an answer changed: % x, %+v", c, k)
		}
	}
}

// Rule 4: bytes that are handed in stay as they are, and answers share nothing with them or each other.
func TestMemoryOfBytes(t *testing.T) {
	r := dice()
	for _, read := range []func([]byte) (api.V4, int, api.Errno){ipv4.Parse, ipv4.Part} {
		for range 300 {
			v := someV4(r)
			b, same := lent(plainBytes(v))
			x, _, _ := read(b)
			y, _, _ := read(b)
			read(b[:len(b)/2])
			spoil(x.Options)
			if !bytes.Equal(x.Body, v.Body) {
				t.Fatalf("the Body changed with the Options: %x", x.Body)
			}
			spoil(x.Body)
			if !same() {
				t.Fatalf("what was handed in changed: % x", b)
			}
			spoil(b)
			if !like(y, v) {
				t.Fatalf("an answer changed: %+v", y)
			}
		}
	}
}

// Rules 4 and 5: nothing is kept: whatever went ahead, the same is answered.
func TestNothingIsKept(t *testing.T) {
	b := plainBytes(api.V4{TTL: 5, Body: []byte{1, 2, 3}})
	for _, ahead := range [][]byte{nil, {0x65}, make([]byte, 20), b[:20], bytes.Repeat([]byte{0x45}, 70)} {
		ipv4.Parse(ahead)
		ipv4.Part(ahead)
		ipv4.Options(ahead)
		ipv4.Routed(ahead)
		if v, at, e := ipv4.Parse(b); !like(v, api.V4{TTL: 5, Body: []byte{1, 2, 3}}) || at != 0 || e != api.OK {
			t.Errorf("behind % x: %+v, %d, %d", ahead, v, at, e)
		}
	}
}

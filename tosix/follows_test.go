package tosix_test

import (
	"math/rand/v2"
	"testing"

	"ferryman/api"
	"ferryman/ipv4"
	"ferryman/ipv6"
	"ferryman/tosix"
)

// rightOver6 tells whether a datagram's TCP, UDP or ICMPv6 checksum is right, reckoned apart from the program.
func rightOver6(w api.V6) bool {
	ends := api.Ends6{Src: w.Src, Dst: w.Dst}
	return plainSum(append(pseudo6(ends, int(w.Proto), len(w.Body)), w.Body...)) == 65535
}

// someRight is a datagram of TCP, UDP or ICMP (echoes and errors) with a right checksum, and no fragment.
func someRight(r *rand.Rand, most int) api.V4 {
	v := api.V4{TTL: 9, ID: uint16(r.Uint32()), Src: api.Addr4(someBytes(r, 4)), Dst: api.Addr4(someBytes(r, 4)), Options: someOptions(r)}
	b := someBytes(r, 20+r.IntN(most))
	switch v.Proto = []byte{6, 17, 1, 1}[r.IntN(4)]; {
	case v.Proto == 1 && r.IntN(2) == 0:
		m := someError(r, most)
		b = message(m.Type, m.Code, m.Rest, m.Body).Body
	case v.Proto == 1:
		b[0] = byte(8 * r.IntN(2))
	}
	v.Body = rightBody(v.Proto, api.Ends4{Src: v.Src, Dst: v.Dst}, b)
	return v
}

// P17.6: what is right stays right, of any ends.
func TestRight(t *testing.T) {
	r := dice()
	many := map[byte]int{}
	for range 20000 {
		v := someRight(r, 60)
		w, e := tosix.Packet(v, someEnds(r), someEnds(r))
		if v.Proto == 1 && e != api.OK {
			continue
		}
		if e != api.OK || !rightOver6(w) {
			t.Fatalf("%s: %s, %d", show4(v), show6(w), e)
		}
		if v.Proto == 17 && number(w.Body[6:8]) == 0 {
			t.Fatalf("%s: no checksum: %s", show4(v), show6(w))
		}
		if many[v.Proto]++; v.Proto == 1 {
			many[w.Body[0]]++
		}
	}
	for _, kind := range []byte{2, 3, 4, 128, 129, 6, 17} {
		if many[kind] < 20 {
			t.Errorf("only %d of %d", many[kind], kind)
		}
	}
}

// P17.6: what is wrong stays wrong: a checksum is carried over, not made right.
func TestWrong(t *testing.T) {
	r := dice()
	for range 5000 {
		v := someRight(r, 60)
		if v.Proto == 1 {
			continue
		}
		at := checkAt(v.Proto)
		check := number(v.Body[at:][:2])
		v.Body = setNumber(v.Body, at, (check+1+r.IntN(65533))%65536)
		if got := number(v.Body[at:][:2]); got == check || got == 0 || got == 65535 {
			continue
		}
		if w, e := holdPacket(t, v, someEnds(r), someEnds(r)); e != api.OK || rightOver6(w) {
			t.Fatalf("%s: %s, %d", show4(v), show6(w), e)
		}
	}
}

// P17.6: the whole of what comes as fragments is right too: the checksum stands in the first of them.
func TestRightInFragments(t *testing.T) {
	r := dice()
	for range 2000 {
		v := someRight(r, 100)
		if v.Proto == 1 || len(v.Body) < 33 {
			continue
		}
		ends := someEnds(r)
		first, last := fragment(v, 0, true), fragment(v, 3, false)
		first.Body, last.Body = v.Body[:24], v.Body[24:]
		a, e := tosix.Packet(first, ends, inner)
		b, e2 := tosix.Packet(last, ends, inner)
		if e != api.OK || e2 != api.OK || a.ID != b.ID {
			t.Fatalf("%s: %d, %d", show4(v), e, e2)
		}
		whole := a
		whole.Body = append(append([]byte{}, a.Body...), b.Body...)
		if !rightOver6(whole) {
			t.Fatalf("%s: %s", show4(v), show6(whole))
		}
	}
}

// P17.7: 20 bytes more than the datagram without Options, 28 of a fragment, but of ICMP's errors.
func TestAsLong(t *testing.T) {
	r := dice()
	made := 0
	for range 20000 {
		v := someV4(r, 80)
		w, e := tosix.Packet(v, someEnds(r), someEnds(r))
		if e != api.OK || v.Proto == 1 && v.Body[0] != 0 && v.Body[0] != 8 {
			continue
		}
		made++
		bare := v
		bare.Options = nil
		was, _, _ := ipv4.Size(bare)
		more := 20
		if v.MF || v.Off > 0 {
			more = 28
		}
		if all, _, e := ipv6.Size(w); all != was+more || e != api.OK {
			t.Fatalf("%s: %d bytes, %d; want %d", show4(v), all, e, was+more)
		}
	}
	if made < 5000 {
		t.Errorf("only %d", made)
	}
}

// The chapter's example: UDP that is no fragment has 48 bytes and more.
func TestExamplePacket(t *testing.T) {
	v := datagram(17, rightBody(17, ends4, make([]byte, 8)))
	w, e := tosix.Packet(v, outer, inner)
	if all, _, sizeE := ipv6.Size(w); all != 48 || w.Proto != 17 || !rightOver6(w) || e != api.OK || sizeE != api.OK {
		t.Errorf("%s, %d", show6(w), e)
	}
}

// What Inside tells of a whole packet is what Packet makes of it, of all that has a checksum, and is no error.
func TestInsideIsPacket(t *testing.T) {
	r := dice()
	made := 0
	for range 20000 {
		v, ends := someV4(r, 80), someEnds(r)
		w, e := tosix.Packet(v, ends, inner)
		if e != api.OK || v.Proto == 1 && v.Body[0] != 0 && v.Body[0] != 8 {
			continue
		}
		if v.Proto == 17 && v.Off == 0 && number(v.Body[6:8]) == 0 {
			continue // of that one Inside tells as it is
		}
		made++
		want, _ := ipv6.Write(w)
		got, e := tosix.Inside(bytesOf(v, 0), ends)
		if e != api.OK || !alike(got, want, v) {
			t.Fatalf("%s:\n%x, %d; want\n%x", show4(v), got, e, want)
		}
	}
	if made < 3000 {
		t.Errorf("only %d", made)
	}
}

// alike holds bytes against each other; of ICMP a checksum 0 and 65535 are the same.
func alike(a, b []byte, v api.V4) bool {
	if v.Proto == 1 && len(a) > 44 && number(a[42:44])%65535 == 0 && number(b[42:44])%65535 == 0 {
		a, b = setNumber(a, 42, 0), setNumber(b, 42, 0)
	}
	return string(a) == string(b)
}

package tofour_test

import (
	"math/rand/v2"
	"testing"

	"ferryman/api"
	"ferryman/ipv4"
	"ferryman/ipv6"
	"ferryman/tofour"
	"ferryman/tosix"
)

// rightOver4 tells whether a datagram's TCP, UDP or ICMP checksum is right, reckoned apart from the program.
func rightOver4(w api.V4) bool {
	if w.Proto == 1 {
		return plainSum(w.Body) == 65535
	}
	return plainSum(append(pseudo4(api.Ends4{Src: w.Src, Dst: w.Dst}, int(w.Proto), len(w.Body)), w.Body...)) == 65535
}

// someRight is a datagram of TCP, UDP or ICMP (echoes and errors) with a right checksum, and no fragment.
func someRight(r *rand.Rand, most int) api.V6 {
	v := api.V6{Hop: 9, Src: api.Addr6(someBytes(r, 16)), Dst: api.Addr6(someBytes(r, 16)), Heads: someHeads(r)}
	if r.IntN(2) == 0 {
		v.Frag, v.ID = true, r.Uint32()
	}
	b := someBytes(r, 20+r.IntN(most))
	switch v.Proto = []byte{6, 17, 58, 58}[r.IntN(4)]; {
	case v.Proto == 58 && r.IntN(2) == 0:
		m := someError(r, most)
		b = message(m.Type, m.Code, m.Rest, m.Body).Body
	case v.Proto == 58:
		b[0] = byte(128 + r.IntN(2))
	}
	v.Body = rightBody(v.Proto, api.Ends6{Src: v.Src, Dst: v.Dst}, b)
	return v
}

// P18.6: what is right stays right, of any ends.
func TestRight(t *testing.T) {
	r := dice()
	many := map[[2]byte]int{}
	for range 30000 {
		v := someRight(r, 60)
		w, e := tofour.Packet(v, someEnds(r), someEnds(r))
		if v.Proto == 58 && e != api.OK {
			continue
		}
		if e != api.OK || !rightOver4(w) {
			t.Fatalf("%s: %s, %d", show6(v), show4(w), e)
		}
		if v.Proto == 17 && number(w.Body[6:8]) == 0 {
			t.Fatalf("%s: no checksum: %s", show6(v), show4(w))
		}
		if many[[2]byte{w.Proto}]++; v.Proto == 58 {
			many[[2]byte{1, w.Body[0]}]++
		}
	}
	for _, kind := range [][2]byte{{6}, {17}, {1, 0}, {1, 3}, {1, 8}, {1, 11}, {1, 12}} {
		if many[kind] < 20 {
			t.Errorf("only %d of %d", many[kind], kind)
		}
	}
}

// P18.6: what is wrong stays wrong: a checksum is carried over, not made right.
func TestWrong(t *testing.T) {
	r := dice()
	for range 5000 {
		v := someRight(r, 60)
		if v.Proto == 58 {
			continue
		}
		at := checkAt(v.Proto)
		check := number(v.Body[at:][:2])
		v.Body = setNumber(v.Body, at, (check+1+r.IntN(65533))%65536)
		if got := number(v.Body[at:][:2]); got == check || got == 0 || got == 65535 {
			continue
		}
		if w, e := holdPacket(t, v, someEnds(r), someEnds(r)); e != api.OK || rightOver4(w) {
			t.Fatalf("%s: %s, %d", show6(v), show4(w), e)
		}
	}
}

// P18.6: the whole of what comes as fragments is right too: the checksum stands in the first of them.
func TestRightInFragments(t *testing.T) {
	r := dice()
	for range 2000 {
		v := someRight(r, 100)
		if v.Proto == 58 || len(v.Body) < 33 {
			continue
		}
		ends := someEnds(r)
		first, last := fragment(v, 0, true), fragment(v, 3, false)
		first.Body, last.Body = v.Body[:24], v.Body[24:]
		a, e := tofour.Packet(first, ends, inner)
		b, e2 := tofour.Packet(last, ends, inner)
		if e != api.OK || e2 != api.OK || a.ID != b.ID || a.DF || b.DF || !a.MF || b.MF || b.Off != 3 {
			t.Fatalf("%s: %d, %d", show6(v), e, e2)
		}
		all := a
		all.Body = append(append([]byte{}, a.Body...), b.Body...)
		if !rightOver4(all) {
			t.Fatalf("%s: %s", show6(v), show4(all))
		}
	}
}

// P18.7: as many bytes of Body, and 20 of header, but of ICMP's errors.
func TestAsLong(t *testing.T) {
	r := dice()
	made := 0
	for range 20000 {
		v := someV6(r, 80)
		w, e := tofour.Packet(v, someEnds(r), someEnds(r))
		if e != api.OK || v.Proto == 58 && v.Body[0] < 128 {
			continue
		}
		made++
		if all, head, e := ipv4.Size(w); all != 20+len(v.Body) || head != 20 || len(w.Options) != 0 || e != api.OK {
			t.Fatalf("%s: %d bytes, %d of header, %d; want %d", show6(v), all, head, e, 20+len(v.Body))
		}
	}
	if made < 5000 {
		t.Errorf("only %d", made)
	}
}

// The chapter's example: UDP without a fragment header has DF, ID 0, Proto 17, the checksum carried over.
func TestExamplePacket(t *testing.T) {
	v := datagram(17, rightBody(17, ends6, make([]byte, 8)))
	w, e := tofour.Packet(v, outer, inner)
	if !w.DF || w.ID != 0 || w.MF || w.Proto != 17 || len(w.Body) != 8 || !rightOver4(w) || e != api.OK {
		t.Errorf("%s, %d", show4(w), e)
	}
	if want := plainCarried(number(v.Body[6:8]), ends6, outer, true); number(w.Body[6:8]) != want {
		t.Errorf("%s; want %x", show4(w), want)
	}
}

// wantBack holds what comes of a datagram that went over IPv6 against it.
func wantBack(t *testing.T, v api.V4, ends api.Ends6) {
	t.Helper()
	own := api.Ends4{Src: v.Src, Dst: v.Dst}
	w, e := tosix.Packet(v, ends, api.Ends6{})
	if e != api.OK {
		t.Fatalf("%s: over IPv6: %d", show4(v), e)
	}
	got, e := tofour.Packet(w, own, inner)
	want := v
	// DF just if it is no fragment, and then ID 0.
	if want.DF = !v.MF && v.Off == 0; want.DF {
		want.ID = 0
	}
	// A checksum 0 or 65535 may stand for the other one.
	if at := checkAt(v.Proto); e == api.OK && v.Off == 0 && number(v.Body[at:][:2])%65535 == 0 && number(got.Body[at:][:2])%65535 == 0 {
		got.Body, want.Body = setNumber(got.Body, at, 0), setNumber(want.Body, at, 0)
	}
	if e != api.OK || !like(got, want) {
		t.Fatalf("%s: %s, %d", show4(v), show4(got), e)
	}
}

// someFour is a datagram of TCP or UDP without Options, with a right checksum that is not 0: whole, or the first or another one of some fragments.
func someFour(r *rand.Rand) api.V4 {
	v := api.V4{TOS: byte(r.Uint32()), ID: uint16(r.Uint32()), DF: r.IntN(2) == 0, TTL: byte(r.Uint32()), Proto: []byte{6, 17}[r.IntN(2)]}
	v.Src, v.Dst = api.Addr4(someBytes(r, 4)), api.Addr4(someBytes(r, 4))
	ahead := pseudo4(api.Ends4{Src: v.Src, Dst: v.Dst}, int(v.Proto), 0)
	for at := checkAt(v.Proto); len(v.Body) == 0 || number(v.Body[at:][:2]) == 0; {
		b := setNumber(someBytes(r, 20+r.IntN(60)), at, 0)
		ahead = setNumber(ahead, 10, len(b))
		v.Body = setNumber(b, at, 65535-plainSum(append(ahead, b...)))
	}
	switch r.IntN(4) {
	case 0:
		v.MF = true
	case 1:
		v.MF, v.Off, v.Body = r.IntN(2) == 0, 1+r.IntN(8191), v.Body[r.IntN(len(v.Body)):]
	}
	return v
}

// P18.8: TCP and UDP, there and back.
func TestThereAndBack(t *testing.T) {
	r := dice()
	for range 30000 {
		v := someFour(r)
		wantBack(t, v, api.Ends6{Src: api.Addr6(someBytes(r, 16)), Dst: api.Addr6(someBytes(r, 16))})
		wantBack(t, v, ends6)
	}
}

// P18.8: the same of each checksum there is, 65535 among them.
func TestThereAndBackChecks(t *testing.T) {
	for check := 1; check < 65536; check++ {
		for _, proto := range []byte{6, 17} {
			// A word behind the checksum makes it right.
			b := setNumber(setNumber(make([]byte, 22), checkAt(proto), check), 20, 0)
			ahead := pseudo4(outer, int(proto), len(b))
			b = setNumber(b, 20, 65535-plainSum(append(ahead, b...)))
			v := api.V4{TTL: 9, ID: 5, Proto: proto, Src: outer.Src, Dst: outer.Dst, Body: b}
			if plainSum(append(ahead, b...)) != 65535 {
				t.Fatalf("%x", b)
			}
			wantBack(t, v, ends6)
			v.MF = true
			wantBack(t, v, ends6)
		}
	}
}

// What comes back from an error that went there tells of a packet between those that it had, with its length.
func TestErrorThereAndBack(t *testing.T) {
	r := dice()
	made := 0
	for range 5000 {
		about := someFour(r)
		packet, _ := ipv4.Write(about)
		m := api.Icmp{Type: []byte{3, 11, 12}[r.IntN(3)], Body: packet[:len(packet)-r.IntN(len(about.Body)+1)]}
		six, e := tosix.Message(m, ends6)
		if e != api.OK {
			t.Fatalf("%s: %d", showMessage(m), e)
		}
		got, e := tofour.Message(six, api.Ends4{Src: about.Src, Dst: about.Dst})
		if e != api.OK {
			t.Fatalf("%s: %d", showMessage(six), e)
		}
		w, _, e := ipv4.Part(got.Body)
		if e != api.OK || w.Src != about.Src || w.Dst != about.Dst || w.Proto != about.Proto || number(got.Body[2:4]) != len(packet) || len(got.Body) != len(m.Body) {
			t.Fatalf("%s: %s, %d", showMessage(m), showMessage(got), e)
		}
		made++
	}
	if made < 1000 {
		t.Errorf("only %d", made)
	}
}

// What Inside tells of a whole packet is what Packet makes of it, of all that has a checksum, and is no error.
func TestInsideIsPacket(t *testing.T) {
	r := dice()
	made := 0
	for range 20000 {
		v, ends := someV6(r, 80), someEnds(r)
		w, e := tofour.Packet(v, ends, inner)
		if e != api.OK || v.Proto == 58 && v.Body[0] < 128 {
			continue
		}
		made++
		want, _ := ipv4.Write(w)
		b, _ := ipv6.Write(v)
		got, e := tofour.Inside(b, ends)
		if e != api.OK || !alike(got, want, v) {
			t.Fatalf("%s:\n%x, %d; want\n%x", show6(v), got, e, want)
		}
	}
	if made < 3000 {
		t.Errorf("only %d", made)
	}
}

// alike holds bytes against each other; of ICMP a checksum 0 and 65535 are the same.
func alike(a, b []byte, v api.V6) bool {
	if v.Proto == 58 && len(a) > 24 && number(a[22:24])%65535 == 0 && number(b[22:24])%65535 == 0 {
		a, b = setNumber(a, 22, 0), setNumber(b, 22, 0)
	}
	return string(a) == string(b)
}

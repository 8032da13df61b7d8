package tofour_test

import (
	"testing"

	"ferryman/api"
)

// Rules 1 and 2, P18.2, P18.5: random datagrams, wrong ones among them.
func TestRandomPackets(t *testing.T) {
	r := dice()
	seen := map[api.Errno]int{}
	for range 40000 {
		v := someWrong(r, someV6(r, 80))
		_, e := holdPacket(t, v, someEnds(r), someEnds(r))
		seen[e]++
		holdTells(t, v)
	}
	for _, e := range []api.Errno{api.OK, 2, 54, 70, 71, 170, 171, 172, 173, 174, 175, 176} {
		if seen[e] < 20 {
			t.Errorf("%d was told only %d times", e, seen[e])
		}
	}
}

// Rules 1 and 2, P18.2, P18.3, P18.5: random errors, about packets that may be cut off, and are wrong now and then.
func TestRandomErrors(t *testing.T) {
	r := dice()
	seen := map[api.Errno]int{}
	tell := 0
	for range 40000 {
		m := someError(r, 60)
		if r.IntN(4) == 0 {
			m.Body[r.IntN(min(len(m.Body), 60))] = byte(r.Uint32())
		}
		_, e := holdMessage(t, m, someEnds(r))
		seen[e]++
		v := message(m.Type, m.Code, m.Rest, m.Body)
		holdPacket(t, v, someEnds(r), someEnds(r))
		if _, is, _ := holdTells(t, v); is {
			tell++
		}
	}
	for _, e := range []api.Errno{api.OK, 170, 171, 175, 176} {
		if seen[e] < 50 {
			t.Errorf("%d was told only %d times", e, seen[e])
		}
	}
	if tell < 1000 {
		t.Errorf("only %d told of a packet", tell)
	}
}

// Rules 1 and 2, P18.3: random messages of any type.
func TestRandomMessages(t *testing.T) {
	r := dice()
	for range 20000 {
		kind := byte(r.IntN(8))
		if r.IntN(4) == 0 {
			kind += 126
		}
		holdMessage(t, api.Icmp{Type: kind, Code: byte(r.IntN(8)), Rest: r.Uint32(), Body: someBytes(r, r.IntN(60))}, someEnds(r))
	}
}

// Rules 1 and 2, P18.4: random bytes, and bytes of packets with some of them changed.
func TestRandomInside(t *testing.T) {
	r := dice()
	seen := map[api.Errno]int{}
	for range 60000 {
		b := someBytes(r, r.IntN(120))
		if len(b) > 0 {
			b[0] = byte(0x60 + r.IntN(16))
		}
		if len(b) > 6 {
			b[4], b[6] = byte(r.IntN(3)), someProto(r)
		}
		for at := 40; at+1 < len(b); at += 8 {
			b[at], b[at+1] = someProto(r), byte(r.IntN(2))
		}
		if r.IntN(2) == 0 {
			b = bytesOf(someRoute(r, someV6(r, 80)), r.IntN(30))
			b[r.IntN(len(b))] ^= 1 << r.IntN(8)
		}
		_, e := holdInside(t, b, someEnds(r))
		seen[e]++
	}
	for _, e := range []api.Errno{api.OK, 170, 171, 176} {
		if seen[e] < 100 {
			t.Errorf("%d was told only %d times", e, seen[e])
		}
	}
}

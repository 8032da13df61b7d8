package flow_test

import (
	"math/rand/v2"
	"testing"

	"ferryman/api"
	"ferryman/flow"
)

// P19.3, rules 1 and 2: random runs, wrong ones among them, held against the plain way.
func TestRandomRuns(t *testing.T) {
	r := dice()
	states, faults := map[api.FlowState]int{}, map[api.Errno]int{}
	for range 40000 {
		l, proto := someLives(r), someProto(r)
		packets := someRun(r, l, r.IntN(16))
		switch r.IntN(10) {
		case 0:
			l = withLife(l, r.IntN(5), noLives()[r.IntN(9)])
		case 1, 2:
			someFault(r, packets)
		}
		s, _, e := holdRun(t, l, proto, packets...)
		if t.Failed() {
			return
		}
		states[s]++
		faults[e]++
	}
	for s := api.FlowState(0); s <= 8; s++ {
		if states[s] < 20 {
			t.Errorf("state %d came %d times", s, states[s])
		}
	}
	for _, e := range []api.Errno{0, 1, 64, 190, 191} {
		if faults[e] < 20 {
			t.Errorf("error %d came %d times", e, faults[e])
		}
	}
}

// wild is any number: a small one, a power of 2 or one beside it, or any at all.
func wild(r *rand.Rand) int {
	switch r.IntN(3) {
	case 0:
		return r.IntN(20) - 6
	case 1:
		return 1<<r.IntN(64) + r.IntN(3) - 1
	}
	return int(r.Uint64())
}

// Rule 1: any numbers at all, of all calls, held against the plain way.
func TestWild(t *testing.T) {
	r := dice()
	for range 40000 {
		l := usual()
		for at := range 5 {
			if r.IntN(6) == 0 {
				l = withLife(l, at, wild(r))
			}
		}
		s := api.FlowState(wild(r))
		holdLife(t, l, s)
		holdStep(t, s, r.IntN(2) == 0, uint8(r.IntN(256)))
		holdBegin(t, uint8(r.IntN(256)), uint8(r.IntN(256)))
		var packets []api.Packet
		for range r.IntN(4) {
			packets = append(packets, api.Packet{Time: wild(r), Inside: r.IntN(4) > 0, Flags: uint8(r.IntN(256))})
		}
		holdRun(t, l, someProto(r), packets...)
		if t.Failed() {
			return
		}
	}
	if s, longer := flow.Step(9, true, syn); s != 9 || longer {
		t.Errorf("Step(9) = %d, %v", s, longer)
	}
}

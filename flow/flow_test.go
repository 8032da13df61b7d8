package flow_test

import (
	"testing"

	"ferryman/api"
	"ferryman/flow"
)

// P19.1, Check: each life at its edges, alone and beside each other one that may not be.
func TestCheck(t *testing.T) {
	for at := range 5 {
		for _, life := range []int{1, 2, 300, maxLife - 1, maxLife} {
			l := withLife(usual(), at, life)
			if e := flow.Check(l); e != 0 {
				t.Errorf("Check(%v) = %d", l, e)
			}
			for other := range 5 {
				two := withLife(l, other, maxLife)
				if e := flow.Check(two); e != 0 {
					t.Errorf("Check(%v) = %d", two, e)
				}
			}
		}
		for _, life := range noLives() {
			l := withLife(usual(), at, life)
			if e := flow.Check(l); e != 190 {
				t.Errorf("Check(%v) = %d", l, e)
			}
			for other := range 5 {
				for _, beside := range noLives() {
					two := withLife(withLife(usual(), other, beside), at, life)
					if e := flow.Check(two); e != 190 {
						t.Errorf("Check(%v) = %d", two, e)
					}
				}
			}
		}
	}
	if e := flow.Check(api.Lives{}); e != 190 {
		t.Errorf("of no lives: %d", e)
	}
	if e := flow.Check(api.Lives{UDP: 1, ICMP: 1, Init: 1, Open: 1, Trans: 1}); e != 0 {
		t.Errorf("of the least lives: %d", e)
	}
	if e := flow.Check(api.Lives{UDP: maxLife, ICMP: maxLife, Init: maxLife, Open: maxLife, Trans: maxLife}); e != 0 {
		t.Errorf("of the greatest lives: %d", e)
	}
}

// P19.1, Begin: what the chapter names.
func TestBeginNamed(t *testing.T) {
	for _, c := range []struct {
		proto, flags uint8
		s            api.FlowState
		e            api.Errno
	}{
		{17, 0, 1, 0},
		{17, 255, 1, 0},
		{17, rst, 1, 0},
		{1, 0, 2, 0},
		{1, rst | fin, 2, 0},
		{58, 0, 2, 0},
		{58, syn | rst, 2, 0},
		{6, syn, 3, 0},
		{6, syn | fin, 3, 0},
		{6, syn | ack, 3, 0},
		{6, syn | psh | ack | urg | 64 | 128, 3, 0},
		{6, syn | rst, 0, 191},
		{6, syn | rst | fin, 0, 191},
		{6, rst, 0, 191},
		{6, fin, 0, 191},
		{6, fin | rst, 0, 191},
		{6, ack, 0, 191},
		{6, 0, 0, 191},
		{6, 255 &^ syn, 0, 191},
		{6, 255, 0, 191},
		{0, syn, 0, 64},
		{2, syn, 0, 64},
		{4, 0, 0, 64},
		{5, syn, 0, 64},
		{7, syn, 0, 64},
		{16, 0, 0, 64},
		{18, 0, 0, 64},
		{44, syn, 0, 64},
		{57, 0, 0, 64},
		{59, 0, 0, 64},
		{136, 0, 0, 64},
		{255, syn, 0, 64},
	} {
		if s, e := flow.Begin(c.proto, c.flags); s != c.s || e != c.e {
			t.Errorf("Begin(%d, %08b) = %d, %d; want %d, %d", c.proto, c.flags, s, e, c.s, c.e)
		}
	}
}

// P19.1, Begin: each protocol with each choice of flags.
func TestBeginAll(t *testing.T) {
	for proto := range 256 {
		for flags := range 256 {
			holdBegin(t, uint8(proto), uint8(flags))
		}
	}
}

// P19.1, Life: each state's.
func TestLifeNamed(t *testing.T) {
	for i, want := range []int{300, 60, 240, 7440, 7440, 7440, 250, 250} {
		if n, e := flow.Life(usual(), api.FlowState(i+1)); n != want || e != 0 {
			t.Errorf("Life of state %d = %d, %d; want %d", i+1, n, e, want)
		}
	}
	for _, s := range noStates() {
		if n, e := flow.Life(usual(), s); n != 0 || e != 1 {
			t.Errorf("Life of %d = %d, %d", s, n, e)
		}
	}
}

// P19.1, Life: each life at its edges in each state; ErrLives is told ahead of ErrArg, also where the life at fault is not the state's.
func TestLifeEdges(t *testing.T) {
	for at := range 5 {
		for _, life := range append(noLives(), 1, 2, maxLife-1, maxLife) {
			l := withLife(usual(), at, life)
			for s := api.FlowState(-2); s <= 11; s++ {
				holdLife(t, l, s)
			}
			for _, s := range noStates() {
				holdLife(t, l, s)
			}
		}
		for _, s := range noStates() {
			if n, e := flow.Life(withLife(usual(), at, 0), s); n != 0 || e != 190 {
				t.Errorf("Life of %d = %d, %d", s, n, e)
			}
		}
		for s := api.FlowState(1); s <= 8; s++ {
			if n, e := flow.Life(withLife(usual(), at, maxLife+1), s); n != 0 || e != 190 {
				t.Errorf("Life of %d = %d, %d", s, n, e)
			}
		}
	}
}

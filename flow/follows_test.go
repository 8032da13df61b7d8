package flow_test

import (
	"testing"

	"ferryman/api"
	"ferryman/flow"
)

// What Run tells is what Begin, Step and Life tell one by one.
func TestRunByParts(t *testing.T) {
	r := dice()
	for range 4000 {
		l, proto := someLives(r), someProto(r)
		packets := someRun(r, l, 1+r.IntN(12))
		s, e := flow.Begin(proto, packets[0].Flags)
		if e != 0 || !packets[0].Inside {
			continue
		}
		life, _ := flow.Life(l, s)
		end := packets[0].Time + life
		for n := 1; n <= len(packets); n++ {
			if got, at, e := flow.Run(l, proto, packets[:n]...); got != s || at != end || e != 0 {
				t.Fatalf("Run(%v, %d, %v) = %d, %d, %d; want %d, %d", l, proto, packets[:n], got, at, e, s, end)
			}
			if n == len(packets) || packets[n].Time >= end {
				break
			}
			p, longer := packets[n], false
			if s, longer = flow.Step(s, p.Inside, p.Flags); longer {
				life, _ = flow.Life(l, s)
				end = p.Time + life
			}
		}
	}
}

// P19.4: a session ends at most the greatest life behind the last packet that came in time, and behind it in any case.
func TestQuiet(t *testing.T) {
	r := dice()
	for range 4000 {
		l, proto := someLives(r), someProto(r)
		greatest := max(l.UDP, l.ICMP, l.Init, l.Open, l.Trans)
		packets := someRun(r, l, 1+r.IntN(30))
		last, before := 0, 0
		for n := 1; n <= len(packets); n++ {
			_, end, e := flow.Run(l, proto, packets[:n]...)
			if e != 0 {
				break
			}
			now := packets[n-1].Time
			if n > 1 && now >= before {
				if end != before {
					t.Fatalf("%v, %d, %v: the end was %d, and is %d behind a packet that came too late", l, proto, packets[:n], before, end)
				}
				break
			}
			last, before = now, end
			if end <= last || end-last > greatest {
				t.Fatalf("%v, %d, %v: ends at %d", l, proto, packets[:n], end)
			}
		}
	}
}

// P19.5: states of UDP and ICMP do not change, whatever comes; those of TCP never are those of another.
func TestOrder(t *testing.T) {
	for flags := range 256 {
		for _, inside := range []bool{true, false} {
			for _, s := range []api.FlowState{1, 2} {
				if got, longer := flow.Step(s, inside, uint8(flags)); got != s || !longer {
					t.Errorf("Step(%d, %v, %08b) = %d, %v", s, inside, flags, got, longer)
				}
			}
			for s := api.FlowState(3); s <= 8; s++ {
				if got, _ := flow.Step(s, inside, uint8(flags)); got < 3 || got > 8 {
					t.Errorf("Step(%d, %v, %08b) = %d", s, inside, flags, got)
				}
			}
		}
	}
	r := dice()
	for range 2000 {
		l := someLives(r)
		packets := someRun(r, l, 1+r.IntN(20))
		packets[0].Inside = true
		for proto, want := range map[uint8]api.FlowState{17: 1, 1: 2, 58: 2} {
			if s, _, e := flow.Run(l, proto, packets...); s != want || e != 0 {
				t.Fatalf("Run(%v, %d, %v) = %d, %d", l, proto, packets, s, e)
			}
		}
	}
}

// P19.6: no one packet leads to FlowBoth or to FlowFins but those that the promise names.
func TestBothSteps(t *testing.T) {
	for s := api.FlowState(1); s <= 8; s++ {
		for flags := range 256 {
			for _, inside := range []bool{true, false} {
				got, _ := flow.Step(s, inside, uint8(flags))
				switch {
				case got == s:
				case got == 4 && s == 3 && !inside && flags&syn != 0 && flags&rst == 0:
				case got == 4 && s == 8 && flags&rst == 0:
				case got == 7 && s == 5 && !inside && flags&fin != 0 && flags&rst == 0:
				case got == 7 && s == 6 && inside && flags&fin != 0 && flags&rst == 0:
				case got == 4 || got == 7:
					t.Errorf("Step(%d, %v, %08b) = %d", s, inside, flags, got)
				}
			}
		}
	}
}

// seen is which sides sent a flag in time.
type seen struct{ in, out bool }

func (s *seen) mark(inside bool) {
	s.in = s.in || inside
	s.out = s.out || !inside
}

// P19.6: in runs, FlowBoth comes behind SYNs from both sides, and FlowFins behind FINs from both.
func TestBothRuns(t *testing.T) {
	r := dice()
	both, fins := 0, 0
	for range 6000 {
		l := someLives(r)
		packets := someRun(r, l, 1+r.IntN(30))
		var syns, closes seen
		end := maxTime + maxLife
		for n := 1; n <= len(packets); n++ {
			p := packets[n-1]
			if p.Time >= end {
				break
			}
			if p.Flags&syn != 0 && p.Flags&rst == 0 {
				syns.mark(p.Inside)
			}
			if p.Flags&fin != 0 && p.Flags&rst == 0 {
				closes.mark(p.Inside)
			}
			s, until, e := flow.Run(l, 6, packets[:n]...)
			if e != 0 {
				break
			}
			end = until
			if s >= 4 && !(syns.in && syns.out) || s == 7 && !(closes.in && closes.out) {
				t.Fatalf("Run(%v, 6, %v) = %d", l, packets[:n], s)
			}
			both += int(s / 4 % 2)
			if s == 7 {
				fins++
			}
		}
	}
	if both == 0 || fins == 0 {
		t.Errorf("%d and %d runs came there", both, fins)
	}
}

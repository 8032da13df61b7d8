package flow_test

import (
	"slices"
	"sync"
	"testing"

	"ferryman/api"
	"ferryman/flow"
)

// Rule 4: no packets are no packets, whatever list tells it.
func TestNil(t *testing.T) {
	for _, l := range []api.Lives{usual(), {}} {
		for _, packets := range [][]api.Packet{nil, {}, make([]api.Packet, 0, 5), []api.Packet{in(0, syn)}[:0]} {
			s, end, e := flow.Run(l, 6, packets...)
			if s2, end2, e2 := flow.Run(l, 6); s != s2 || end != end2 || e != e2 {
				t.Errorf("%d, %d, %d; want %d, %d, %d", s, end, e, s2, end2, e2)
			}
		}
	}
}

// Rule 4: what is handed in is not changed, nor what stands behind it in its memory, nor is that read.
func TestMemory(t *testing.T) {
	r := dice()
	for range 2000 {
		l, proto := someLives(r), someProto(r)
		long := someRun(r, l, 20)
		n := 1 + r.IntN(19)
		if r.IntN(4) == 0 {
			someFault(r, long[:n])
		}
		was := slices.Clone(long)
		s, end, e := flow.Run(l, proto, long[:n]...)
		if !slices.Equal(long, was) {
			t.Fatal("Run changed what was handed in")
		}
		if s2, end2, e2 := flow.Run(l, proto, slices.Clone(was[:n])...); s != s2 || end != end2 || e != e2 {
			t.Fatalf("Run(%v, %d, %v) = %d, %d, %d, and %d, %d, %d of a copy", l, proto, was[:n], s, end, e, s2, end2, e2)
		}
		for i := range long {
			long[i] = api.Packet{Time: -1}
		}
		if s2, end2, e2 := flow.Run(l, proto, was[:n]...); s != s2 || end != end2 || e != e2 {
			t.Fatal("Run kept what was handed in")
		}
	}
}

// Rule 5: nothing is kept: calls at one time and in another order tell the same.
func TestNothingKept(t *testing.T) {
	type told struct {
		s   api.FlowState
		end int
		e   api.Errno
	}
	r := dice()
	var all [][]api.Packet
	var want []told
	for range 300 {
		packets := someRun(r, usual(), 1+r.IntN(20))
		s, end, e := flow.Run(usual(), 6, packets...)
		all, want = append(all, packets), append(want, told{s, end, e})
	}
	var ways sync.WaitGroup
	for range 4 {
		ways.Go(func() {
			for i := len(all) - 1; i >= 0; i-- {
				s, end, e := flow.Run(usual(), 6, all[i]...)
				if (told{s, end, e}) != want[i] {
					t.Errorf("Run(6, %v) = %d, %d, %d; was %v", all[i], s, end, e, want[i])
				}
				flow.Begin(uint8(i), uint8(i))
				flow.Step(api.FlowState(i), true, uint8(i))
				flow.Life(api.Lives{}, api.FlowState(i))
			}
		})
	}
	ways.Wait()
}

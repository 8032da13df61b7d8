package flow_test

import (
	"testing"

	"ferryman/api"
	"ferryman/flow"
)

// wantRun holds Run against what is said, and against the plain way.
func wantRun(t *testing.T, l api.Lives, proto uint8, s api.FlowState, end int, packets ...api.Packet) {
	t.Helper()
	got, n, e := holdRun(t, l, proto, packets...)
	if got != s || n != end || e != 0 {
		t.Errorf("Run(%v, %d, %v) = %d, %d, %d; want %d, %d", l, proto, packets, got, n, e, s, end)
	}
}

func wantFault(t *testing.T, l api.Lives, proto uint8, want api.Errno, packets ...api.Packet) {
	t.Helper()
	s, n, e := holdRun(t, l, proto, packets...)
	if s != 0 || n != 0 || e != want {
		t.Errorf("Run(%v, %d, %v) = %d, %d, %d; want error %d", l, proto, packets, s, n, e, want)
	}
}

// P19.3: one packet, of each protocol that begins a session.
func TestRunOne(t *testing.T) {
	l := usual()
	for _, at := range []int{0, 1, 1000, maxTime - 1, maxTime} {
		wantRun(t, l, 17, 1, at+300, in(at, 0))
		wantRun(t, l, 17, 1, at+300, in(at, 255))
		wantRun(t, l, 1, 2, at+60, in(at, 0))
		wantRun(t, l, 58, 2, at+60, in(at, rst))
		wantRun(t, l, 6, 3, at+240, in(at, syn))
		wantRun(t, l, 6, 3, at+240, in(at, 255&^rst))
	}
}

// P19.3: the chapter's example, packet by packet, and on to its end.
func TestRunExample(t *testing.T) {
	l := usual()
	packets := []api.Packet{in(0, syn), out(5, syn|ack), in(9, fin), out(9, fin), in(12, 0), out(258, ack), out(259, 0), in(260, syn)}
	for i, want := range []struct {
		s   api.FlowState
		end int
	}{{3, 240}, {4, 7445}, {5, 7449}, {7, 259}, {7, 259}, {7, 259}, {7, 259}, {7, 259}} {
		wantRun(t, l, 6, want.s, want.end, packets[:i+1]...)
	}
}

// P19.3: a packet one ahead of the end, at the end, behind it; those behind one that came too late count no more than it does.
func TestRunEnd(t *testing.T) {
	l := usual()
	for _, c := range []struct {
		proto uint8
		life  int
		s     api.FlowState
	}{{17, 300, 1}, {1, 60, 2}, {58, 60, 2}} {
		first := in(100, 0)
		end := 100 + c.life
		wantRun(t, l, c.proto, c.s, end-1+c.life, first, out(end-1, 0))
		wantRun(t, l, c.proto, c.s, end-1+c.life, first, in(end-1, 255))
		wantRun(t, l, c.proto, c.s, end, first, out(end, 0))
		wantRun(t, l, c.proto, c.s, end, first, in(end, 0))
		wantRun(t, l, c.proto, c.s, end, first, in(end+1, 0))
		wantRun(t, l, c.proto, c.s, end, first, out(end, 0), in(end, 0), out(end+5, 0))
	}
	a := in(100, syn)
	wantRun(t, l, 6, 4, 339+7440, a, out(339, syn))
	wantRun(t, l, 6, 3, 340, a, out(340, syn))
	wantRun(t, l, 6, 3, 340, a, out(341, syn))
	wantRun(t, l, 6, 3, 340, a, out(340, syn), in(340, syn), out(maxTime, syn))
	wantRun(t, l, 6, 3, 339+240, a, in(339, syn))
	wantRun(t, l, 6, 3, 340, a, in(340, syn))
	wantRun(t, l, 6, 3, 340, a, in(339, ack), out(340, syn))
	b := out(101, syn)
	wantRun(t, l, 6, 4, 7540+7440, a, b, in(7540, ack))
	wantRun(t, l, 6, 4, 7541, a, b, in(7541, ack))
	wantRun(t, l, 6, 4, 7541, a, b, in(7541, rst))
	wantRun(t, l, 6, 8, 7540+250, a, b, in(7540, rst))
}

// P19.3: an end comes nearer where the state's life is shorter, and a packet that lengthens nothing moves no end.
func TestRunNearer(t *testing.T) {
	l := usual()
	a, b := in(0, syn), out(5, syn)
	wantRun(t, l, 6, 8, 256, a, b, in(6, rst))
	wantRun(t, l, 6, 8, 256, a, b, in(6, rst), out(255, rst))
	wantRun(t, l, 6, 8, 256, a, b, in(6, rst), out(256, 0))
	wantRun(t, l, 6, 4, 255+7440, a, b, in(6, rst), out(255, 0))
	wantRun(t, l, 6, 4, 255+7440, a, b, in(6, rst), in(255, fin))
	wantRun(t, l, 6, 4, 255+7440, a, b, in(6, rst), in(255, syn))
	wantRun(t, l, 6, 6, 7447, a, b, out(7, fin))
	wantRun(t, l, 6, 6, 7448, a, b, out(7, fin), out(8, fin))
	wantRun(t, l, 6, 7, 258, a, b, out(7, fin), in(8, fin))
	wantRun(t, l, 6, 7, 258, a, b, out(7, fin), in(8, fin), in(9, rst), out(10, syn), in(257, fin))
	wantRun(t, l, 6, 3, 240, a, in(1, 0), out(2, ack), out(3, fin), in(4, rst), out(5, syn|rst), in(6, syn|rst))
	wantRun(t, l, 6, 3, 247, a, in(7, syn|fin))
	wantRun(t, l, 6, 4, 7447, a, out(7, syn|fin))
}

// P19.3: packets at one time come one behind the other; a life of 1 lets those of the same time come.
func TestRunSameTime(t *testing.T) {
	l := api.Lives{UDP: 1, ICMP: 1, Init: 1, Open: 1, Trans: 1}
	wantRun(t, l, 6, 7, 8, in(7, syn), out(7, syn), out(7, fin), in(7, fin))
	wantRun(t, l, 6, 4, 8, in(7, syn), out(7, syn), out(7, rst), in(7, 0))
	wantRun(t, l, 6, 3, 8, in(7, syn), out(8, syn))
	wantRun(t, l, 17, 1, 1, in(0, 0), in(0, 0), in(1, 0))
	wantRun(t, usual(), 17, 1, 300, in(0, 0), in(0, 0), out(0, 0))
}

// P19.3: an end may be above MaxTime, a Time may not.
func TestRunLast(t *testing.T) {
	l := api.Lives{UDP: maxLife, ICMP: maxLife, Init: maxLife, Open: maxLife, Trans: maxLife}
	wantRun(t, l, 17, 1, maxTime+maxLife, in(maxTime, 0))
	wantRun(t, l, 17, 1, maxTime+maxLife, in(maxTime-maxLife+1, 0), out(maxTime, 0))
	wantRun(t, l, 17, 1, maxTime, in(maxTime-maxLife, 0), out(maxTime, 0))
	wantRun(t, l, 6, 4, maxTime+maxLife, in(maxTime, syn), out(maxTime, syn))
	wantRun(t, l, 6, 8, maxTime+maxLife, in(maxTime-1, syn), out(maxTime, syn), in(maxTime, rst))
	wantRun(t, usual(), 1, 2, maxTime+60, in(maxTime, 0), in(maxTime, 0))
	wantFault(t, l, 17, 1, in(maxTime+1, 0))
	wantFault(t, l, 17, 1, in(maxTime, 0), out(maxTime+1, 0))
}

// P19.3, ErrArg: no packets; times that may not be, at each place, also behind the session's end.
func TestRunTimes(t *testing.T) {
	l := usual()
	for _, proto := range []uint8{1, 6, 17, 58} {
		wantFault(t, l, proto, 1)
		wantFault(t, l, proto, 1, []api.Packet{}...)
		for n := 1; n <= 5; n++ {
			for at := range n {
				for _, time := range append(noTimes(), 1000*at-1001, 1000*at-1) {
					packets := []api.Packet{in(0, syn), out(1000, syn), in(2000, 0), out(3000, 0), in(4000, 0)}[:n]
					packets[at].Time = time
					if at == 0 && time >= 0 && time <= 1000 || at > 0 && time >= packets[at-1].Time && time <= maxTime {
						holdRun(t, l, proto, packets...)
						continue
					}
					wantFault(t, l, proto, 1, packets...)
				}
			}
		}
	}
	wantFault(t, l, 17, 1, in(-1, 0))
	wantFault(t, l, 17, 1, in(5, 0), in(4, 0))
	wantFault(t, l, 17, 1, in(5, 0), in(0, 0))
	wantFault(t, l, 17, 1, in(0, 0), in(900, 0), in(899, 0))
	wantFault(t, l, 17, 1, in(0, 0), in(7, 0), in(6, 0), in(8, 0))
	wantRun(t, l, 17, 1, 305, in(5, 0), in(5, 0))
}

// P19.3, ErrFlow and Begin's errors: the first packet alone may be at fault by its side, its flags, its protocol.
func TestRunFirst(t *testing.T) {
	l := usual()
	for proto := range 256 {
		for flags := range 256 {
			holdRun(t, l, uint8(proto), in(3, uint8(flags)))
			holdRun(t, l, uint8(proto), in(3, uint8(flags)), out(4, syn))
			wantFault(t, l, uint8(proto), 191, out(3, uint8(flags)))
			wantFault(t, l, uint8(proto), 191, out(3, uint8(flags)), in(4, syn))
		}
	}
	wantFault(t, l, 6, 191, in(0, 0))
	wantFault(t, l, 6, 191, in(0, syn|rst))
	wantFault(t, l, 6, 191, in(0, ack), in(1, syn))
	wantFault(t, l, 7, 64, in(0, syn))
	wantFault(t, l, 0, 64, in(0, syn), out(1, syn))
}

// P19.3: which error is told first, where several hold.
func TestRunOrder(t *testing.T) {
	good, bad := usual(), withLife(usual(), 1, 0)
	early := in(-1, 0)
	for _, proto := range []uint8{6, 17, 7} {
		wantFault(t, bad, proto, 190)
		wantFault(t, bad, proto, 190, early)
		wantFault(t, bad, proto, 190, out(0, 0))
		wantFault(t, bad, proto, 190, in(0, 0), out(9, 0), in(8, 0))
		wantFault(t, good, proto, 1)
		wantFault(t, good, proto, 1, out(-1, 0))
		wantFault(t, good, proto, 1, out(0, 0), early)
		wantFault(t, good, proto, 1, out(0, 0), in(5, 0), in(4, 0))
		wantFault(t, good, proto, 1, in(0, rst), in(5, 0), in(maxTime+1, 0))
		wantFault(t, good, proto, 1, in(0, syn), in(5000, 0), in(6000, 0), in(5999, 0))
		wantFault(t, good, proto, 191, out(0, 0))
		wantFault(t, good, proto, 191, out(0, syn), in(0, syn))
	}
	for at := range 5 {
		for _, life := range noLives() {
			wantFault(t, withLife(usual(), at, life), 17, 190, in(0, 0))
			wantFault(t, withLife(usual(), at, life), 17, 190, out(-1, 0))
		}
	}
}

// P19.3: as many packets as one likes; with one that lengthens at every second to last time the session goes on for ever.
func TestRunMany(t *testing.T) {
	var packets []api.Packet
	for i := range 100000 {
		packets = append(packets, api.Packet{Time: i * 59, Inside: i%2 == 0, Flags: uint8(i)})
	}
	last := packets[len(packets)-1].Time
	wantRun(t, usual(), 1, 2, last+60, packets...)
	packets[70000].Time++ // 60 behind the one ahead of it
	wantRun(t, usual(), 58, 2, packets[69999].Time+60, packets...)
}

// P19.3: each lives' place counts for its own states alone.
func TestRunLives(t *testing.T) {
	runs := map[uint8][]api.Packet{
		17: {in(10, 0), out(11, 0)},
		1:  {in(10, 0), out(11, 0)},
		6:  {in(10, syn), out(11, syn), in(12, fin), out(13, fin)},
	}
	for proto, packets := range runs {
		for n := 1; n <= len(packets); n++ {
			s, _, _ := flow.Run(usual(), proto, packets[:n]...)
			for at := range 5 {
				l := withLife(usual(), at, 9999)
				life, _ := flow.Life(l, s)
				wantRun(t, l, proto, s, packets[n-1].Time+life, packets[:n]...)
			}
		}
	}
}

package flow_test

import (
	"math"
	"math/rand/v2"

	"ferryman/api"
)

const (
	fin = 1
	syn = 2
	rst = 4
	psh = 8
	ack = 16
	urg = 32

	maxLife = 1 << 31
	maxTime = 1 << 40
)

// usual is lives of which no two are the same.
func usual() api.Lives {
	return api.Lives{UDP: 300, ICMP: 60, Init: 240, Open: 7440, Trans: 250}
}

// in and out are packets from inside and from outside.
func in(time int, flags uint8) api.Packet  { return api.Packet{Time: time, Inside: true, Flags: flags} }
func out(time int, flags uint8) api.Packet { return api.Packet{Time: time, Flags: flags} }

// withLife is lives with another life in one place, of which there are five.
func withLife(l api.Lives, at, life int) api.Lives {
	*[]*int{&l.UDP, &l.ICMP, &l.Init, &l.Open, &l.Trans}[at] = life
	return l
}

// noLives are numbers that no life may be.
func noLives() []int {
	return []int{0, -1, maxLife + 1, math.MinInt, math.MaxInt, -maxLife, math.MinInt32, 1 << 32, 1<<32 + 300}
}

// noStates are numbers beside the states, those that are states when they are cut to 8, 16 or 32 bits among them.
func noStates() []api.FlowState {
	l := []api.FlowState{0, -1, 9, 10, -8, math.MinInt, math.MaxInt}
	for s := api.FlowState(1); s <= 8; s++ {
		l = append(l, s+1<<8, s+1<<16, s+1<<32, s-1<<8, s-1<<32, s<<4)
	}
	return l
}

func noTimes() []int { return []int{-1, maxTime + 1, math.MinInt, math.MaxInt, -maxTime} }

func someLives(r *rand.Rand) api.Lives {
	l := api.Lives{UDP: 1 + r.IntN(20), ICMP: 1 + r.IntN(20), Init: 1 + r.IntN(20), Open: 1 + r.IntN(60), Trans: 1 + r.IntN(20)}
	switch r.IntN(12) {
	case 0:
		l = withLife(l, r.IntN(5), 1+r.IntN(maxLife))
	case 1:
		l = withLife(l, r.IntN(5), maxLife)
	}
	return l
}

// someFlags is flags of which those that count are set now and then; SYN most often, where a session begins.
func someFlags(r *rand.Rand, first bool) uint8 {
	var flags uint8
	for _, f := range []uint8{fin, syn, rst} {
		if r.IntN(3) == 0 {
			flags |= f
		}
	}
	if first && r.IntN(8) > 0 {
		flags = flags&^rst | syn
	}
	return flags | uint8(r.IntN(256))&^7
}

// someRun is packets with gaps that are often just as long as a life, or one more or less.
func someRun(r *rand.Rand, l api.Lives, n int) []api.Packet {
	var packets []api.Packet
	now := r.IntN(3)
	if r.IntN(10) == 0 {
		now = maxTime - r.IntN(200)
	}
	for i := range n {
		p := api.Packet{Time: now, Inside: r.IntN(2) == 0 || i == 0 && r.IntN(8) > 0, Flags: someFlags(r, i == 0)}
		packets = append(packets, p)
		life := []int{l.UDP, l.ICMP, l.Init, l.Open, l.Trans}[r.IntN(5)]
		switch r.IntN(8) {
		case 0:
			now += life - 1 + r.IntN(3)
		case 1, 2, 3:
			now += r.IntN(min(life, 12))
		case 4:
			now++
		}
		now = min(now, maxTime)
	}
	return packets
}

// someFault makes one or more of a run's packets such as may not be.
func someFault(r *rand.Rand, packets []api.Packet) {
	for len(packets) > 0 {
		p := &packets[r.IntN(len(packets))]
		switch r.IntN(3) {
		case 0:
			p.Time = noTimes()[r.IntN(5)]
		case 1:
			p.Time -= 1 + r.IntN(3)
		case 2:
			packets[0].Inside = false
		}
		if r.IntN(3) > 0 {
			return
		}
	}
}

func someProto(r *rand.Rand) uint8 {
	return []uint8{6, 6, 6, 6, 6, 6, 17, 1, 58, uint8(r.IntN(256))}[r.IntN(10)]
}

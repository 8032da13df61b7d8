package flow

import "ferryman/api"

// Run is the state behind several packets, and when the session ends, if it does not end ahead of one.
func Run(l api.Lives, proto uint8, packets ...api.Packet) (api.FlowState, int, api.Errno) {
	if e := Check(l); e != api.OK {
		return 0, 0, e
	}
	if !mayCome(packets) {
		return 0, 0, api.ErrArg
	}
	s, e := first(proto, packets[0])
	if e != api.OK {
		return 0, 0, e
	}
	s, end := goOn(l, s, packets)
	return s, end, api.OK
}

// mayCome tells whether there are packets, and come in their order at times that may be.
func mayCome(packets []api.Packet) bool {
	earliest := 0
	for _, p := range packets {
		if p.Time < earliest || p.Time > api.MaxTime {
			return false
		}
		earliest = p.Time
	}
	return len(packets) > 0
}

// first is the state with which a packet begins a session.
func first(proto uint8, p api.Packet) (api.FlowState, api.Errno) {
	if !p.Inside {
		return 0, api.ErrFlow
	}
	return Begin(proto, p.Flags)
}

// goOn is the state and the end of a session that packets[0] began in state s.
func goOn(l api.Lives, s api.FlowState, packets []api.Packet) (api.FlowState, int) {
	end := packets[0].Time + lifeOf(l, s)
	for _, p := range packets[1:] {
		if p.Time >= end {
			break // a session that is over does not come back, whatever comes behind
		}
		var longer bool
		if s, longer = Step(s, p.Inside, p.Flags); longer {
			end = p.Time + lifeOf(l, s)
		}
	}
	return s, end
}

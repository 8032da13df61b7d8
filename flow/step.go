package flow

import "ferryman/api"

// Step is the state behind a packet, and whether it lengthens the session's life.
func Step(s api.FlowState, inside bool, flags uint8) (api.FlowState, bool) {
	switch s {
	case api.FlowUDP:
		fallthrough
	case api.FlowICMP:
		return s, true
	case api.FlowInit:
		return behindInit(inside, flags)
	case api.FlowBoth:
		fallthrough
	case api.FlowFinIn:
		fallthrough
	case api.FlowFinOut:
		return behindOpen(s, inside, flags), true
	case api.FlowTrans:
		return behindTrans(flags)
	}
	// FlowFins is among these: a session that both sides have closed does not live longer by what comes late.
	return s, false
}

func behindInit(inside bool, flags uint8) (api.FlowState, bool) {
	switch {
	case !opens(flags):
		return api.FlowInit, false
	case inside:
		return api.FlowInit, true
	}
	return api.FlowBoth, true
}

func behindOpen(s api.FlowState, inside bool, flags uint8) api.FlowState {
	switch {
	case has(flags, api.FlagRST):
		return api.FlowTrans
	case has(flags, api.FlagFIN):
		return behindFIN(s, inside)
	}
	return s
}

// behindFIN is the state behind a FIN: a side that has closed already changes nothing by one more.
func behindFIN(s api.FlowState, inside bool) api.FlowState {
	its, others := api.FlowFinOut, api.FlowFinIn
	if inside {
		its, others = others, its
	}
	switch s {
	case api.FlowBoth:
		return its
	case others:
		return api.FlowFins
	}
	return s
}

func behindTrans(flags uint8) (api.FlowState, bool) {
	if has(flags, api.FlagRST) {
		return api.FlowTrans, false
	}
	return api.FlowBoth, true
}

// opens tells whether a packet asks for a session of TCP, or grants one.
func opens(flags uint8) bool { return has(flags, api.FlagSYN) && !has(flags, api.FlagRST) }

func has(flags, flag uint8) bool { return flags&flag != 0 }

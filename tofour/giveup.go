package tofour

import "ferryman/api"

// gaveUp is why a call has no answer; a panic carries it.
type gaveUp api.Errno

// answer is what a way tells; if the way gives up, nothing beside why.
func answer[T any](way func() T) (told T, e api.Errno) {
	defer func() {
		v := recover()
		if why, is := v.(gaveUp); is {
			e = api.Errno(why)
		} else if v != nil {
			panic(v) // no packet's fault, and not to be hidden
		}
	}()
	return way(), api.OK
}

func must(holds bool, e api.Errno) {
	if !holds {
		panic(gaveUp(e))
	}
}

// good gives up by the error that a lower call answered.
func good(e api.Errno) { must(e == api.OK, e) }

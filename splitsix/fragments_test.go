package splitsix

import (
	"testing"

	"ferryman/api"
)

// Who stops ranging over fragments is told no more of them: else the range would panic.
func TestStop(t *testing.T) {
	for stop := 1; stop <= 3; stop++ {
		for _, n := range []int{0, 3000} {
			told := 0
			for range fragments(api.V6{Proto: 17, Body: make([]byte, n)}, 1280, 7) {
				told++
				if told == stop {
					break
				}
			}
			if want := min(stop, 1+n/1232); told != want {
				t.Errorf("%d bytes, stopped at %d: %d", n, stop, told)
			}
		}
	}
}

// A panic that is none of the package's own is not taken for an answer.
func TestOtherPanics(t *testing.T) {
	defer func() {
		if v := recover(); v != "other" {
			t.Errorf("%v", v)
		}
	}()
	answer(func() int { panic("other") })
	t.Error("an answer")
}

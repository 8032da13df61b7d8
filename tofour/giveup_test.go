package tofour

import "testing"

// A panic that is none of the package's own is not taken for an answer.
func TestOtherPanics(t *testing.T) {
	defer func() {
		if v := recover(); v != "other" {
			t.Errorf("%v", v)
		}
	}()
	answer(func() int { panic("other") })
	t.Error("an answer")
}

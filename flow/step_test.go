package flow_test

import (
	"testing"

	"ferryman/api"
	"ferryman/flow"
)

// P19.2: the whole table. A row is a state's, from inside and from outside: the states behind packets with no flag that counts, F, S, FS, R, FR, SR, FSR; then whether each lengthens the life.
func TestStepTable(t *testing.T) {
	for i, row := range []struct{ in, inLonger, out, outLonger string }{
		{"11111111", "yyyyyyyy", "11111111", "yyyyyyyy"},
		{"22222222", "yyyyyyyy", "22222222", "yyyyyyyy"},
		{"33333333", "nnyynnnn", "33443333", "nnyynnnn"},
		{"45458888", "yyyyyyyy", "46468888", "yyyyyyyy"},
		{"55558888", "yyyyyyyy", "57578888", "yyyyyyyy"},
		{"67678888", "yyyyyyyy", "66668888", "yyyyyyyy"},
		{"77777777", "nnnnnnnn", "77777777", "nnnnnnnn"},
		{"44448888", "yyyynnnn", "44448888", "yyyynnnn"},
	} {
		s := api.FlowState(i + 1)
		for flags := range 256 {
			for inside, told := range map[bool][2]string{true: {row.in, row.inLonger}, false: {row.out, row.outLonger}} {
				want, yes := api.FlowState(told[0][flags%8]-'0'), told[1][flags%8] == 'y'
				if got, longer := flow.Step(s, inside, uint8(flags)); got != want || longer != yes {
					t.Errorf("Step(%d, %v, %08b) = %d, %v; want %d, %v", s, inside, flags, got, longer, want, yes)
				}
				holdStep(t, s, inside, uint8(flags))
			}
		}
	}
}

// P19.2: of what is no state, the same, which lengthens nothing.
func TestStepNoState(t *testing.T) {
	for _, s := range noStates() {
		for flags := range 256 {
			for _, inside := range []bool{true, false} {
				if got, longer := flow.Step(s, inside, uint8(flags)); got != s || longer {
					t.Errorf("Step(%d, %v, %08b) = %d, %v", s, inside, flags, got, longer)
				}
				holdStep(t, s, inside, uint8(flags))
			}
		}
	}
}

// The chapter's example.
func TestStepExample(t *testing.T) {
	s, e := flow.Begin(6, syn)
	if s != 3 || e != 0 {
		t.Fatalf("Begin = %d, %d", s, e)
	}
	for _, c := range []struct {
		inside bool
		flags  uint8
		want   api.FlowState
	}{{false, syn, 4}, {true, fin, 5}, {false, fin, 7}} {
		var longer bool
		if s, longer = flow.Step(s, c.inside, c.flags); s != c.want || !longer {
			t.Fatalf("Step = %d, %v; want %d", s, longer, c.want)
		}
	}
}

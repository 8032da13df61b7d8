package flow_test

import (
	"math/big"
	"math/rand/v2"
	"strings"
	"testing"

	"ferryman/api"
	"ferryman/flow"
)

func dice() *rand.Rand { return rand.New(rand.NewPCG(19, 5)) }

// names are the states' names: a state's number is its place, the first of them being 1.
const names = "UDP ICMP Init Both FinIn FinOut Fins Trans"

// table is the chapter's table: states, the side a packet comes from, flags that it has, flags that it has not, the state behind it, whether the life is longer by it.
const table = `
UDP,ICMP          any - - same   yes
Init              out S R Both   yes
Init              in  S R same   yes
Init              any - - same   no
Both,FinIn,FinOut any R - Trans  yes
Both              in  F - FinIn  yes
Both              out F - FinOut yes
FinIn             out F - Fins   yes
FinOut            in  F - Fins   yes
Both,FinIn,FinOut any - - same   yes
Fins              any - - same   no
Trans             any - R Both   yes
Trans             any R - same   no
`

// lives tells which states live how long.
const lives = "UDP:UDP ICMP:ICMP Init:Init Open:Both,FinIn,FinOut Trans:Fins,Trans"

func named(s api.FlowState) string {
	for i, name := range strings.Fields(names) {
		if int(s) == i+1 {
			return name
		}
	}
	return ""
}

func numbered(name string) api.FlowState {
	for i, other := range strings.Fields(names) {
		if name == other {
			return api.FlowState(i + 1)
		}
	}
	return -1
}

func among(name, list string) bool {
	for _, other := range strings.Split(list, ",") {
		if name == other {
			return true
		}
	}
	return false
}

// letters are the flags that count, as a text.
func letters(flags uint8) string {
	text := ""
	for i, letter := range []string{"F", "S", "R"} {
		if flags>>i%2 == 1 {
			text += letter
		}
	}
	return text
}

// plainStep goes through the table's lines for the first one that fits.
func plainStep(s api.FlowState, inside bool, flags uint8) (api.FlowState, bool) {
	side := "out"
	if inside {
		side = "in"
	}
	for _, line := range strings.Split(strings.TrimSpace(table), "\n") {
		f := strings.Fields(line)
		switch {
		case !among(named(s), f[0]):
		case f[1] != "any" && f[1] != side:
		case f[2] != "-" && !strings.Contains(letters(flags), f[2]):
		case f[3] != "-" && strings.Contains(letters(flags), f[3]):
		case f[4] == "same":
			return s, f[5] == "yes"
		default:
			return numbered(f[4]), f[5] == "yes"
		}
	}
	return s, false
}

// plainLives is lives by their names.
func plainLives(l api.Lives) map[string]int {
	return map[string]int{"UDP": l.UDP, "ICMP": l.ICMP, "Init": l.Init, "Open": l.Open, "Trans": l.Trans}
}

func plainCheck(l api.Lives) api.Errno {
	most := new(big.Int).Lsh(big.NewInt(1), 31)
	for _, life := range plainLives(l) {
		if n := big.NewInt(int64(life)); n.Sign() <= 0 || n.Cmp(most) > 0 {
			return 190
		}
	}
	return 0
}

func plainBegin(proto uint8, flags uint8) (api.FlowState, api.Errno) {
	told := map[uint8]string{17: "UDP", 1: "ICMP", 58: "ICMP", 6: "Init"}
	name, is := told[proto]
	if !is {
		return 0, 64
	}
	if f := letters(flags); proto == 6 && f != "S" && f != "FS" {
		return 0, 191
	}
	return numbered(name), 0
}

func plainLife(l api.Lives, s api.FlowState) (int, api.Errno) {
	if e := plainCheck(l); e != 0 {
		return 0, e
	}
	for _, row := range strings.Fields(lives) {
		name, states, _ := strings.Cut(row, ":")
		if among(named(s), states) {
			return plainLives(l)[name], 0
		}
	}
	return 0, 1
}

// plainRun counts down how long the session has left behind each packet, and ends it where nothing is.
func plainRun(l api.Lives, proto uint8, packets []api.Packet) (api.FlowState, int, api.Errno) {
	if e := plainCheck(l); e != 0 {
		return 0, 0, e
	}
	if len(packets) == 0 {
		return 0, 0, 1
	}
	for i, p := range packets {
		if p.Time < 0 || p.Time > 1<<40 || i > 0 && p.Time < packets[i-1].Time {
			return 0, 0, 1
		}
	}
	if !packets[0].Inside {
		return 0, 0, 191
	}
	s, e := plainBegin(proto, packets[0].Flags)
	if e != 0 {
		return 0, 0, e
	}
	left, _ := plainLife(l, s)
	now, over := packets[0].Time, false
	for _, p := range packets[1:] {
		gap := p.Time - now
		if over = over || gap >= left; over {
			continue
		}
		now, left = p.Time, left-gap
		var longer bool
		if s, longer = plainStep(s, p.Inside, p.Flags); longer {
			left, _ = plainLife(l, s)
		}
	}
	return s, now + left, 0
}

// holdRun holds Run against the plain way, and tells what both told.
func holdRun(t *testing.T, l api.Lives, proto uint8, packets ...api.Packet) (api.FlowState, int, api.Errno) {
	t.Helper()
	s, end, e := flow.Run(l, proto, packets...)
	if s2, end2, e2 := plainRun(l, proto, packets); s != s2 || end != end2 || e != e2 {
		t.Errorf("Run(%v, %d, %v) = %d, %d, %d; want %d, %d, %d", l, proto, packets, s, end, e, s2, end2, e2)
	}
	return s, end, e
}

func holdStep(t *testing.T, s api.FlowState, inside bool, flags uint8) {
	t.Helper()
	got, longer := flow.Step(s, inside, flags)
	if want, yes := plainStep(s, inside, flags); got != want || longer != yes {
		t.Errorf("Step(%d, %v, %08b) = %d, %v; want %d, %v", s, inside, flags, got, longer, want, yes)
	}
}

func holdLife(t *testing.T, l api.Lives, s api.FlowState) {
	t.Helper()
	n, e := flow.Life(l, s)
	if want, e2 := plainLife(l, s); n != want || e != e2 {
		t.Errorf("Life(%v, %d) = %d, %d; want %d, %d", l, s, n, e, want, e2)
	}
	if got, want := flow.Check(l), plainCheck(l); got != want {
		t.Errorf("Check(%v) = %d; want %d", l, got, want)
	}
}

func holdBegin(t *testing.T, proto, flags uint8) {
	t.Helper()
	s, e := flow.Begin(proto, flags)
	if want, e2 := plainBegin(proto, flags); s != want || e != e2 {
		t.Errorf("Begin(%d, %08b) = %d, %d; want %d, %d", proto, flags, s, e, want, e2)
	}
}

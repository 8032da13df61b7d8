package portset_test

import (
	"math"
	"math/rand/v2"
	"strconv"
	"strings"
	"testing"

	"ferryman/api"
	"ferryman/portset"
)

func dice() *rand.Rand { return rand.New(rand.NewPCG(9, 6)) }

const ports = 1 << 16

// far are numbers of bits outside everything, many of which may be in fewer bits of a number.
var far = []int{math.MinInt, math.MinInt + 6, -1 << 32, -1<<32 + 8, -1 << 16, -256, -64, 64, 256, 256 + 6, 1<<16 + 8, 1 << 32, 1<<32 + 6, math.MaxInt - 1, math.MaxInt}

// numbers are those that Offset and Len are asked with.
func numbers() []int {
	out := append([]int{}, far...)
	for n := -20; n <= 40; n++ {
		out = append(out, n)
	}
	return out
}

// cut is one way to cut ports into A, PSID and the rest.
type cut struct{ offset, length int }

func (c cut) set(psid int) api.PortSet {
	return api.PortSet{Offset: c.offset, Len: c.length, PSID: uint16(psid)}
}

// cuts are all that may be, told one by one.
func cuts() []cut {
	var out []cut
	for offset := range 16 {
		for length := range 17 {
			if offset+length <= 16 {
				out = append(out, cut{offset, length})
			}
		}
	}
	return out
}

// power is 2^n, written apart from the program.
func power(n int) int {
	out := 1
	for range n {
		out *= 2
	}
	return out
}

// letters are a port's 16 bits.
func letters(port int) string {
	s := strconv.FormatInt(int64(port), 2)
	return strings.Repeat("0", 16-len(s)) + s
}

// plainOf is whose a port is, by its letters; -1: nobody's.
func plainOf(c cut, port string) int {
	if c.offset > 0 && !strings.Contains(port[:c.offset], "1") {
		return -1
	}
	n := 0
	for _, bit := range port[c.offset : c.offset+c.length] {
		n *= 2
		if bit == '1' {
			n++
		}
	}
	return n
}

var texts = func() (out [ports]string) {
	for i := range out {
		out[i] = letters(i)
	}
	return out
}()

// owners are whose each port is.
func owners(c cut) []int {
	out := make([]int, ports)
	for i := range out {
		out[i] = plainOf(c, texts[i])
	}
	return out
}

// plainPorts are a set's ports, rising.
func plainPorts(owner []int, psid int) []int {
	var out []int
	for port, whose := range owner {
		if whose == psid {
			out = append(out, port)
		}
	}
	return out
}

// plainRuns are runs of ports that follow one another.
func plainRuns(all []int) []api.Ports {
	var out []api.Ports
	for i, port := range all {
		if i == 0 || all[i-1] != port-1 {
			out = append(out, api.Ports{From: uint16(port)})
		}
		out[len(out)-1].To = uint16(port)
	}
	return out
}

// psids are the least, the greatest and some others of a cut.
func psids(r *rand.Rand, c cut) []int {
	n := power(c.length)
	out := []int{0}
	if n > 1 {
		out = append(out, n-1)
	}
	if n > 2 {
		out = append(out, 1+r.IntN(n-2))
	}
	return out
}

// The errors have the numbers that the chapter names.
func TestNumbers(t *testing.T) {
	if got := [4]api.Errno{api.OK, api.ErrRange, api.ErrSet, api.ErrPort}; got != [4]api.Errno{0, 5, 90, 91} {
		t.Error("other numbers", got)
	}
}

// P9.1 to P9.3: example 1.
func TestExample(t *testing.T) {
	s := api.PortSet{Offset: 6, Len: 8, PSID: 0x34}
	l, e := portset.Runs(s)
	if len(l) != 63 || e != api.OK {
		t.Fatalf("%d runs, %v", len(l), e)
	}
	for i, run := range l {
		from := uint16(1232 + 1024*i)
		if run != (api.Ports{From: from, To: from + 3}) {
			t.Errorf("run %d: %v", i, run)
		}
	}
	if n, e := portset.Count(s); n != 252 || e != api.OK {
		t.Errorf("Count: %d, %v", n, e)
	}
	for _, port := range []uint16{1232, 1235, 64720, 64723} {
		if n, ok, e := portset.Of(6, 8, port); n != 0x34 || !ok || e != api.OK {
			t.Errorf("Of %d: %x, %v, %v", port, n, ok, e)
		}
	}
	for _, port := range []uint16{0, 80, 208, 1023} {
		if n, ok, e := portset.Of(6, 8, port); n != 0 || ok || e != api.OK {
			t.Errorf("Of %d: %x, %v, %v", port, n, ok, e)
		}
	}
	if n, ok, _ := portset.Of(6, 8, 1236); n != 0x35 || !ok {
		t.Errorf("Of 1236: %x, %v", n, ok)
	}
	if l, e := portset.Runs(api.PortSet{}); len(l) != 1 || l[0] != (api.Ports{From: 0, To: 65535}) || e != api.OK {
		t.Errorf("all ports: %v, %v", l, e)
	}
}

// mayBe is the chapter's section Words.
func mayBe(s api.PortSet) bool {
	if s.Offset < 0 || s.Offset > 15 || s.Len < 0 || s.Len > 16 || s.Offset+s.Len > 16 {
		return false
	}
	return int(s.PSID) < power(s.Len)
}

// someSets are every Offset with every Len, and PSIDs on both sides of 2^Len.
func someSets() []api.PortSet {
	var out []api.PortSet
	for _, offset := range numbers() {
		for _, length := range numbers() {
			of := []int{0, 1, 255, 65535}
			if length >= 0 && length <= 16 {
				n := power(length)
				of = append(of, n-1, n, n+1)
			}
			for _, psid := range of {
				if psid < ports {
					out = append(out, api.PortSet{Offset: offset, Len: length, PSID: uint16(psid)})
				}
			}
		}
	}
	return out
}

// P9.1: Check, with which all others begin: rule 2: beside ErrSet all is zero, and whatever else is wrong is told behind it.
func TestCheck(t *testing.T) {
	seen := map[cut]int{}
	for _, s := range someSets() {
		want := api.ErrSet
		if mayBe(s) {
			want = api.OK
			seen[cut{s.Offset, s.Len}]++
		}
		if e := portset.Check(s); e != want {
			t.Fatalf("%v: %v, want %v", s, e, want)
		}
		if _, e := portset.Count(s); e != want {
			t.Fatalf("Count of %v: %v, want %v", s, e, want)
		}
		if _, e := portset.At(s, 0); e != want {
			t.Fatalf("At of %v: %v, want %v", s, e, want)
		}
		if want == api.ErrSet {
			holdWrong(t, s)
		}
	}
	if len(seen) != 152 || len(cuts()) != 152 {
		t.Error("Offsets and Lens that may be:", len(seen), len(cuts()))
	}
}

// holdWrong asks all calls of a set that may not be.
func holdWrong(t *testing.T, s api.PortSet) {
	t.Helper()
	if n, e := portset.Count(s); n != 0 || e != api.ErrSet {
		t.Fatalf("Count of %v: %d, %v", s, n, e)
	}
	if l, e := portset.Runs(s); len(l) != 0 || e != api.ErrSet {
		t.Fatalf("Runs of %v: %d, %v", s, len(l), e)
	}
	for _, i := range []int{math.MinInt, -1, 0, 1, 65535, 65536, math.MaxInt} {
		if port, e := portset.At(s, i); port != 0 || e != api.ErrSet {
			t.Fatalf("At of %v, %d: %d, %v", s, i, port, e)
		}
	}
	for _, port := range []uint16{0, 1, 80, 1023, 1024, 1232, 32768, 65535} {
		if has, e := portset.Has(s, port); has || e != api.ErrSet {
			t.Fatalf("Has of %v, %d: %v, %v", s, port, has, e)
		}
		if i, e := portset.Index(s, port); i != 0 || e != api.ErrSet {
			t.Fatalf("Index of %v, %d: %d, %v", s, port, i, e)
		}
		if next, e := portset.Next(s, port); next != 0 || e != api.ErrSet {
			t.Fatalf("Next of %v, %d: %d, %v", s, port, next, e)
		}
	}
}

// P9.1: PSIDs around 2^Len, at every Len, told one by one.
func TestCheckPSID(t *testing.T) {
	for _, c := range cuts() {
		n := power(c.length)
		for _, psid := range []int{0, n / 2, n - 1} {
			if e := portset.Check(c.set(psid)); e != api.OK {
				t.Errorf("%v, PSID %d: %v", c, psid, e)
			}
		}
		for psid := n; psid < ports; psid = 2*psid + 1 {
			if e := portset.Check(c.set(psid)); e != api.ErrSet {
				t.Errorf("%v, PSID %d: %v", c, psid, e)
			}
		}
		if e := portset.Check(c.set(65535)); (e == api.OK) != (c.length == 16) {
			t.Errorf("%v, PSID 65535: %v", c, e)
		}
	}
}

// P9.1: Of, of every port.
func TestOf(t *testing.T) {
	for _, c := range cuts() {
		for port, whose := range owners(c) {
			n, ok, e := portset.Of(c.offset, c.length, uint16(port))
			if ok != (whose >= 0) || int(n) != max(whose, 0) || e != api.OK {
				t.Fatalf("%v, %d: %d, %v, %v; want %d", c, port, n, ok, e, whose)
			}
		}
	}
}

// P9.1: Of, with each Offset and Len.
func TestOfWrong(t *testing.T) {
	for _, offset := range numbers() {
		for _, length := range numbers() {
			want := api.ErrSet
			if mayBe(api.PortSet{Offset: offset, Len: length}) {
				want = api.OK
			}
			for _, port := range []uint16{0, 80, 1232, 65535} {
				n, ok, e := portset.Of(offset, length, port)
				if e != want || want != api.OK && (n != 0 || ok) {
					t.Fatalf("%d, %d, %d: %d, %v, %v; want %v", offset, length, port, n, ok, e, want)
				}
			}
		}
	}
}

// P9.1, P9.2: Has, Index and Next of every port, of sets of each Offset and Len.
func TestEveryPort(t *testing.T) {
	r := dice()
	for _, c := range cuts() {
		owner := owners(c)
		for _, psid := range psids(r, c) {
			holdPorts(t, c.set(psid), plainPorts(owner, psid))
		}
	}
}

// holdPorts holds Has, Index and Next against a set's ports; at is the place of the first one that is not below port.
func holdPorts(t *testing.T, s api.PortSet, all []int) {
	t.Helper()
	at := 0
	for port := range ports {
		one := at < len(all) && all[at] == port
		wantAt, wantE := 0, api.ErrPort
		if one {
			wantAt, wantE = at, api.OK
			at++
		}
		if has, e := portset.Has(s, uint16(port)); has != one || e != api.OK {
			t.Fatalf("Has of %v, %d: %v, %v", s, port, has, e)
		}
		if i, e := portset.Index(s, uint16(port)); i != wantAt || e != wantE {
			t.Fatalf("Index of %v, %d: %d, %v; want %d, %v", s, port, i, e, wantAt, wantE)
		}
		want := all[0]
		if at < len(all) {
			want = all[at]
		}
		if next, e := portset.Next(s, uint16(port)); int(next) != want || e != api.OK {
			t.Fatalf("Next of %v, %d: %d, %v; want %d", s, port, next, e, want)
		}
	}
}

// P9.2: Count and At; P9.3: Runs; of sets of each Offset and Len.
func TestEveryPlace(t *testing.T) {
	r := dice()
	for _, c := range cuts() {
		owner := owners(c)
		for _, psid := range psids(r, c) {
			s, all := c.set(psid), plainPorts(owner, psid)
			if n, e := portset.Count(s); n != len(all) || e != api.OK {
				t.Fatalf("Count of %v: %d, %v; want %d", s, n, e, len(all))
			}
			for i, want := range all {
				if port, e := portset.At(s, i); int(port) != want || e != api.OK {
					t.Fatalf("At of %v, %d: %d, %v; want %d", s, i, port, e, want)
				}
			}
			for _, i := range []int{math.MinInt, -1 << 32, -ports, -1, len(all), len(all) + 1, len(all) + ports, 1 << 32, 1<<32 + 1, math.MaxInt} {
				if port, e := portset.At(s, i); port != 0 || e != api.ErrRange {
					t.Fatalf("At of %v, %d: %d, %v", s, i, port, e)
				}
			}
			holdRuns(t, s, plainRuns(all))
		}
	}
}

func holdRuns(t *testing.T, s api.PortSet, want []api.Ports) {
	t.Helper()
	got, e := portset.Runs(s)
	if len(got) != len(want) || e != api.OK {
		t.Fatalf("Runs of %v: %d, %v; want %d", s, len(got), e, len(want))
	}
	for i, run := range want {
		if got[i] != run {
			t.Fatalf("Runs of %v, %d: %v, want %v", s, i, got[i], run)
		}
	}
}

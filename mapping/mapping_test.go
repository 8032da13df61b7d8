package mapping_test

import (
	"math"
	"math/rand/v2"
	"strconv"
	"strings"
	"testing"

	"ferryman/addr"
	"ferryman/api"
	"ferryman/mapping"
)

func dice() *rand.Rand { return rand.New(rand.NewPCG(10, 7)) }

// far are numbers outside everything, many of which may be in fewer bits of a number.
var far = []int{math.MinInt, math.MinInt + 16, -1 << 32, -1<<32 + 8, -1 << 16, -256, -64, 256, 256 + 16, 1<<16 + 8, 1 << 32, 1<<32 + 6, math.MaxInt - 63, math.MaxInt - 16, math.MaxInt}

// ofByte are the letters of each byte.
var ofByte = func() (out [256]string) {
	for i := range out {
		out[i] = padded(uint64(i), 8)
	}
	return out
}()

// letters are the bits of bytes, a letter each.
func letters(b []byte) string {
	s := make([]byte, 0, 8*len(b))
	for _, x := range b {
		s = append(s, ofByte[x]...)
	}
	return string(s)
}

// padded is a number as n letters, or more, if it has more.
func padded(v uint64, n int) string {
	if n == 0 && v == 0 {
		return ""
	}
	s := strconv.FormatUint(v, 2)
	return strings.Repeat("0", max(n-len(s), 0)) + s
}

// value is the number of letters.
func value(s string) uint64 {
	n := uint64(0)
	for _, x := range s {
		n *= 2
		if x == '1' {
			n++
		}
	}
	return n
}

// fill writes letters to bytes that are 0.
func fill(b []byte, s string) {
	for i, x := range s {
		if x == '1' {
			b[i/8] |= 128 >> (i % 8)
		}
	}
}

func addr4(s string) (a api.Addr4) {
	fill(a[:], s)
	return a
}

func addr6(s string) (x api.Addr6) {
	fill(x[:], s)
	return x
}

func text4(a api.Addr4) string { return letters(a[:]) }

func text6(x api.Addr6) string { return letters(x[:]) }

// flip turns a bit of bytes.
func flip(b []byte, at int) { b[at/8] ^= 128 >> (at % 8) }

func flip4(a api.Addr4, at int) api.Addr4 {
	flip(a[:], at)
	return a
}

func flip6(x api.Addr6, at int) api.Addr6 {
	flip(x[:], at)
	return x
}

func some4(r *rand.Rand) (a api.Addr4) {
	for i := range a {
		a[i] = byte(r.Uint32())
	}
	return a
}

func some6(r *rand.Rand) (x api.Addr6) {
	for i := range x {
		x[i] = byte(r.Uint32())
	}
	return x
}

// some is a random rule of those lengths; a Len that may not be stands with an address of 0.
func some(r *rand.Rand, len6, len4, ea, offset int) api.Rule {
	out := api.Rule{V6: api.Prefix6{Len: len6}, V4: api.Prefix4{Len: len4}, EA: ea, Offset: offset, FMR: r.IntN(2) == 0}
	if len6 >= 0 && len6 <= 128 {
		out.V6.Addr = addr6(text6(some6(r))[:len6])
	}
	if len4 >= 0 && len4 <= 32 {
		out.V4.Addr = addr4(text4(some4(r))[:len4])
	}
	return out
}

// mayBe is a random rule that may be.
func mayBe(r *rand.Rand) api.Rule {
	for {
		if x := some(r, r.IntN(65), r.IntN(33), r.IntN(49), r.IntN(16)); plainCheck(x) == api.OK {
			return x
		}
	}
}

// plainCheck is the chapter's section Words, with prefixes read as letters.
func plainCheck(r api.Rule) api.Errno {
	if r.V6.Len < 0 || r.V6.Len > 128 || strings.Contains(text6(r.V6.Addr)[r.V6.Len:], "1") {
		return api.ErrPrefix
	}
	if r.V4.Len < 0 || r.V4.Len > 32 || strings.Contains(text4(r.V4.Addr)[r.V4.Len:], "1") {
		return api.ErrPrefix
	}
	return plainLens(r)
}

// plainLens is what is left of it where both prefixes may be.
func plainLens(r api.Rule) api.Errno {
	fits := r.EA >= 0 && r.EA <= 48 && r.V6.Len+r.EA <= 64 && r.Offset >= 0 && r.Offset <= 15
	if !fits {
		return api.ErrRule
	}
	if p := 32 - r.V4.Len; r.EA > p && r.Offset+(r.EA-p) > 16 {
		return api.ErrRule
	}
	return api.OK
}

// plainEdge is the edge of EA bits of a rule that may be, put together of letters.
func plainEdge(r api.Rule, ea uint64) api.Edge {
	bits, p := padded(ea, r.EA), 32-r.V4.Len
	end := text6(r.V6.Addr)[:r.V6.Len] + bits
	psid := ""
	var out api.Edge
	if r.EA > p {
		bits, psid = bits[:p], bits[p:]
		out.Set = api.PortSet{Offset: r.Offset, Len: len(psid), PSID: uint16(value(psid))}
	}
	host := text4(r.V4.Addr)[:r.V4.Len] + bits
	out.V4 = api.Prefix4{Addr: addr4(host), Len: len(host)}
	out.End = api.Prefix6{Addr: addr6(end), Len: len(end)}
	own := end + strings.Repeat("0", 64-len(end)+16) + host + strings.Repeat("0", 32-len(host))
	out.Own = addr6(own + strings.Repeat("0", 16-len(psid)) + psid)
	return out
}

// plainOf is the EA bits of an address and port, by their letters.
func plainOf(r api.Rule, a api.Addr4, port uint16) (uint64, api.Errno) {
	host, p := text4(a), 32-r.V4.Len
	if host[:r.V4.Len] != text4(r.V4.Addr)[:r.V4.Len] {
		return 0, api.ErrOut
	}
	if r.EA <= p {
		return value(host[r.V4.Len : r.V4.Len+r.EA]), api.OK
	}
	bits := ofByte[port>>8] + ofByte[port&255]
	if r.Offset > 0 && !strings.Contains(bits[:r.Offset], "1") {
		return 0, api.ErrPort
	}
	return value(host[r.V4.Len:] + bits[r.Offset:r.Offset+r.EA-p]), api.OK
}

// most is the greatest number of n bits, at most 63.
func most(n int) uint64 {
	return value(strings.Repeat("1", n))
}

// eas are the least EA bits, the greatest ones and some between.
func eas(r *rand.Rand, n int) []uint64 {
	out := []uint64{0}
	if n > 0 {
		out = append(out, most(n), r.Uint64()&most(n), r.Uint64()&most(n))
	}
	return out
}

func prefix6(t *testing.T, s string) api.Prefix6 {
	t.Helper()
	p, _, e := addr.Prefix6(s)
	if e != api.OK {
		t.Fatal(s, e)
	}
	return p
}

func prefix4(t *testing.T, s string) api.Prefix4 {
	t.Helper()
	p, _, e := addr.Prefix4(s)
	if e != api.OK {
		t.Fatal(s, e)
	}
	return p
}

func ip6(t *testing.T, s string) api.Addr6 {
	t.Helper()
	x, _, e := addr.Parse6(s)
	if e != api.OK {
		t.Fatal(s, e)
	}
	return x
}

// example is RFC 7597's rule.
func example(t *testing.T) api.Rule {
	t.Helper()
	return api.Rule{V6: prefix6(t, "2001:db8::/40"), V4: prefix4(t, "192.0.2.0/24"), EA: 16, Offset: 6}
}

// The errors have the numbers that the chapter names.
func TestNumbers(t *testing.T) {
	got := [7]api.Errno{api.OK, api.ErrPrefix, api.ErrOut, api.ErrSet, api.ErrPort, api.ErrRule, api.ErrEA}
	if got != [7]api.Errno{0, 22, 82, 90, 91, 100, 101} {
		t.Error("other numbers", got)
	}
}

// Example 1, and what the document's examples of the whole say of it.
func TestExample(t *testing.T) {
	r := example(t)
	own := ip6(t, "2001:db8:12:3400:0:c000:212:34")
	x, e := mapping.Edge(r, 0x1234)
	want := api.Edge{
		V4:  api.Prefix4{Addr: api.Addr4{192, 0, 2, 18}, Len: 32},
		Set: api.PortSet{Offset: 6, Len: 8, PSID: 0x34},
		End: prefix6(t, "2001:db8:12:3400::/56"),
		Own: own,
	}
	if x != want || e != api.OK {
		t.Errorf("Edge: %v, %v", x, e)
	}
	a := api.Addr4{192, 0, 2, 18}
	for _, port := range []uint16{1232, 1235, 2256, 64723} {
		if y, e := mapping.Map(r, a, port); y != own || e != api.OK {
			t.Errorf("Map of %d: %v, %v", port, y, e)
		}
		if yes, e := mapping.Comes(r, own, a, port); !yes || e != api.OK {
			t.Errorf("Comes of %d: %v, %v", port, yes, e)
		}
		if yes, e := mapping.Owns(x, a, port); !yes || e != api.OK {
			t.Errorf("Owns of %d: %v, %v", port, yes, e)
		}
	}
	for _, port := range []uint16{0, 80, 208, 1023, 1236} { // nobody's, and the last one PSID 0x35's
		if yes, e := mapping.Comes(r, own, a, port); yes || e != api.OK {
			t.Errorf("Comes of %d: %v, %v", port, yes, e)
		}
		if yes, e := mapping.Owns(x, a, port); yes || e != api.OK {
			t.Errorf("Owns of %d: %v, %v", port, yes, e)
		}
	}
	if n, e := mapping.Of(r, a, 1236); n != 0x1235 || e != api.OK {
		t.Errorf("Of 1236: %x, %v", n, e)
	}
	if y, e := mapping.Map(r, a, 80); y != (api.Addr6{}) || e != api.ErrPort {
		t.Errorf("Map of 80: %v, %v", y, e)
	}
}

// Check: the edges that the chapter names, told one by one.
func TestCheckNamed(t *testing.T) {
	for _, c := range []struct {
		len6, len4, ea, offset int
		want                   api.Errno
	}{
		{40, 24, 16, 6, api.OK},
		{-1, 24, 16, 6, api.ErrPrefix}, {129, 24, 16, 6, api.ErrPrefix}, {40, -1, 16, 6, api.ErrPrefix}, {40, 33, 16, 6, api.ErrPrefix},
		{-1, 33, 16, 6, api.ErrPrefix}, {129, -1, -1, 16, api.ErrPrefix}, {-1, 24, 49, 16, api.ErrPrefix}, {40, 33, -1, -1, api.ErrPrefix},
		{40, 24, -1, 6, api.ErrRule}, {40, 24, 0, 6, api.OK}, {16, 0, 48, 0, api.OK}, {0, 0, 48, 0, api.OK}, {0, 0, 49, 0, api.ErrRule}, {0, 32, 49, 0, api.ErrRule},
		{48, 24, 16, 6, api.OK}, {49, 24, 16, 6, api.ErrRule}, {64, 24, 0, 6, api.OK}, {64, 24, 1, 6, api.ErrRule}, {65, 24, 0, 6, api.ErrRule}, {128, 24, 0, 6, api.ErrRule}, {17, 0, 48, 0, api.ErrRule},
		{40, 24, 8, -1, api.ErrRule}, {40, 24, 8, 0, api.OK}, {40, 24, 8, 15, api.OK}, {40, 24, 8, 16, api.ErrRule},
		{40, 24, 9, -1, api.ErrRule}, {40, 24, 9, 15, api.OK}, {40, 24, 9, 16, api.ErrRule}, {40, 24, 10, 15, api.ErrRule}, {40, 24, 7, 15, api.OK}, {40, 24, 7, 16, api.ErrRule},
		{40, 24, 18, 6, api.OK}, {40, 24, 19, 6, api.ErrRule}, {40, 24, 24, 0, api.OK}, {39, 24, 25, 0, api.ErrRule},
		{40, 0, 24, 15, api.OK}, {32, 0, 32, 15, api.OK}, {31, 0, 33, 15, api.OK}, {30, 0, 34, 15, api.ErrRule}, {16, 0, 48, 1, api.ErrRule},
		{40, 31, 0, 15, api.OK}, {40, 31, 1, 15, api.OK}, {40, 31, 2, 15, api.OK}, {40, 31, 3, 15, api.ErrRule}, {40, 31, 17, 0, api.OK}, {40, 31, 18, 0, api.ErrRule},
		{40, 32, 0, 15, api.OK}, {40, 32, 1, 15, api.OK}, {40, 32, 2, 15, api.ErrRule}, {40, 32, 16, 0, api.OK}, {40, 32, 17, 0, api.ErrRule}, {40, 32, 10, 6, api.OK}, {40, 32, 11, 6, api.ErrRule},
	} {
		r := api.Rule{V6: api.Prefix6{Len: c.len6}, V4: api.Prefix4{Len: c.len4}, EA: c.ea, Offset: c.offset}
		if e := mapping.Check(r); e != c.want {
			t.Errorf("%+v: %v", c, e)
		}
		if got := plainCheck(r); got != c.want {
			t.Errorf("%+v: the test's own Check tells %v", c, got)
		}
		if c.want != api.OK {
			holdWrong(t, r, c.want)
		}
	}
}

// Check: every Len, EA and Offset that may be with one another, and those around.
func TestCheckEvery(t *testing.T) {
	seen := map[api.Errno]int{}
	r := dice()
	for len6 := range 67 {
		for len4 := range 33 {
			x := some(r, len6, len4, 0, 0)
			for x.EA = -1; x.EA <= 50; x.EA++ {
				for x.Offset = -1; x.Offset <= 17; x.Offset++ {
					want := plainLens(x)
					seen[want]++
					if e := mapping.Check(x); e != want {
						t.Fatalf("%v: %v, want %v", x, e, want)
					}
				}
			}
		}
	}
	if len(seen) != 2 {
		t.Error("some answer was never asked for", seen)
	}
}

// Check: numbers far outside, one at a time and two at once.
func TestCheckFar(t *testing.T) {
	base := example(t)
	for _, n := range far {
		for _, m := range append([]int{16}, far...) {
			for i := range 4 {
				for j := range 4 {
					r := base
					*number(&r, i) = m
					*number(&r, j) = n
					want := api.ErrRule
					if r.V6.Len != 40 || r.V4.Len != 24 { // with 16, too, bits stand behind
						want = api.ErrPrefix
					}
					holdWrong(t, r, want)
				}
			}
		}
	}
}

// number is the i-th number of a rule.
func number(r *api.Rule, i int) *int {
	return []*int{&r.V6.Len, &r.V4.Len, &r.EA, &r.Offset}[i]
}

// Check: a bit behind V6's or V4's first ones.
func TestCheckHost(t *testing.T) {
	r := dice()
	for range 300 {
		x := mayBe(r)
		for at := x.V6.Len; at < 128; at++ {
			y := x
			flip(y.V6.Addr[:], at)
			if e := mapping.Check(y); e != api.ErrPrefix {
				t.Fatalf("%v, bit %d of V6: %v", x, at, e)
			}
		}
		for at := x.V4.Len; at < 32; at++ {
			y := x
			flip(y.V4.Addr[:], at)
			if e := mapping.Check(y); e != api.ErrPrefix {
				t.Fatalf("%v, bit %d of V4: %v", x, at, e)
			}
			y.EA, y.Offset = 49, 16
			holdWrong(t, y, api.ErrPrefix)
		}
	}
}

// holdWrong asks all calls of a rule that may not be: rule 2: Check's error ahead of all others, and all else zero.
func holdWrong(t *testing.T, r api.Rule, want api.Errno) {
	t.Helper()
	if e := mapping.Check(r); e != want {
		t.Fatalf("Check of %v: %v, want %v", r, e, want)
	}
	if s, yes, e := mapping.Ports(r); s != (api.PortSet{}) || yes || e != want {
		t.Fatalf("Ports of %v: %v, %v, %v", r, s, yes, e)
	}
	if n, e := mapping.Count(r); n != 0 || e != want {
		t.Fatalf("Count of %v: %d, %v", r, n, e)
	}
	for _, ea := range []uint64{0, 1, 0x1234, 1 << 48, math.MaxUint64} {
		if x, e := mapping.Edge(r, ea); x != (api.Edge{}) || e != want {
			t.Fatalf("Edge of %v, %x: %v, %v", r, ea, x, e)
		}
	}
	for _, x := range []api.Addr6{{}, r.V6.Addr, flip6(r.V6.Addr, 0), flip6(r.V6.Addr, 127)} {
		if n, e := mapping.Bits(r, x); n != 0 || e != want {
			t.Fatalf("Bits of %v, %v: %x, %v", r, x, n, e)
		}
		for _, a := range []api.Addr4{r.V4.Addr, flip4(r.V4.Addr, 0)} {
			holdWrongPorts(t, r, x, a, want)
		}
	}
}

func holdWrongPorts(t *testing.T, r api.Rule, x api.Addr6, a api.Addr4, want api.Errno) {
	t.Helper()
	for _, port := range []uint16{0, 1232, 65535} {
		if n, e := mapping.Of(r, a, port); n != 0 || e != want {
			t.Fatalf("Of %v, %v, %d: %x, %v", r, a, port, n, e)
		}
		if y, e := mapping.Map(r, a, port); y != (api.Addr6{}) || e != want {
			t.Fatalf("Map of %v, %v, %d: %v, %v", r, a, port, y, e)
		}
		if yes, e := mapping.Comes(r, x, a, port); yes || e != want {
			t.Fatalf("Comes of %v, %v, %v, %d: %v, %v", r, x, a, port, yes, e)
		}
	}
}

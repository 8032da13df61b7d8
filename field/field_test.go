package field_test

import (
	"bytes"
	"fmt"
	"math"
	"math/rand/v2"
	"strconv"
	"strings"
	"testing"

	"ferryman/api"
	"ferryman/field"
)

func dice() *rand.Rand { return rand.New(rand.NewPCG(3, 6)) }

// row is bytes as letters, written apart from the program: by the library's numbers.
func row(b []byte) string {
	var s strings.Builder
	for _, x := range b {
		fmt.Fprintf(&s, "%08b", x)
	}
	return s.String()
}

// packed is letters as bytes, 0 behind them as far as a byte is begun.
func packed(s string) []byte {
	s += strings.Repeat("0", (8-len(s)%8)%8)
	var b []byte
	for ; s != ""; s = s[8:] {
		x, err := strconv.ParseUint(s[:8], 2, 8)
		if err != nil {
			panic(err)
		}
		b = append(b, byte(x))
	}
	return b
}

// number is letters as a number; none are 0.
func number(s string) uint64 {
	if s == "" {
		return 0
	}
	v, err := strconv.ParseUint(s, 2, 64)
	if err != nil {
		panic(err)
	}
	return v
}

// digits is a number as n letters.
func digits(v uint64, n int) string {
	if n == 0 {
		return ""
	}
	return fmt.Sprintf("%0*b", n, v)
}

func someBytes(r *rand.Rand, n int) []byte {
	b := make([]byte, n)
	for i := range b {
		b[i] = byte(r.Uint32())
	}
	return b
}

// upTo is a random number of at most n bits.
func upTo(r *rand.Rand, n int) uint64 {
	if n == 0 {
		return 0
	}
	return r.Uint64() >> (64 - n)
}

// apart is a place and a number of bits that are not there in so many bytes.
type apart struct{ at, n int }

// nowhere are bits that are not there in so many bytes, whatever their number may be.
func nowhere(size int) []apart {
	all := 8 * size
	return []apart{
		{-1, 0}, {-1, 1}, {0, -1}, {1, -1}, {-1, -1}, {-1, all + 1}, {all + 1, -1},
		{0, all + 1}, {1, all}, {all, 1}, {all + 1, 0}, {all + 1, 1}, {all + 8, 0},
		{math.MinInt, 0}, {math.MinInt, 1}, {math.MaxInt, 0}, {math.MaxInt, 1},
		{0, math.MinInt}, {1, math.MinInt}, {all, math.MinInt}, {0, math.MaxInt}, {1, math.MaxInt},
		{math.MaxInt, math.MaxInt}, {math.MinInt, math.MinInt}, {math.MinInt, math.MaxInt}, {math.MaxInt, math.MinInt},
		{math.MaxInt - 7, 8}, {8, math.MaxInt - 7},
	}
}

// P3.1: every place and number of bits, within a byte and across bytes.
func TestGet(t *testing.T) {
	r := dice()
	for size := range 20 {
		b := someBytes(r, size)
		all := row(b)
		for at := range 8*size + 1 {
			for n := range min(8*size-at, 64) + 1 {
				if v, e := field.Get(b, at, n); v != number(all[at:at+n]) || e != api.OK {
					t.Fatalf("Get(%x, %d, %d) = %x, %d", b, at, n, v, e)
				}
			}
		}
		if all != row(b) {
			t.Fatalf("Get changed %s to %x", all, b)
		}
	}
}

// P3.1: the named edges.
func TestGetEdges(t *testing.T) {
	long := bytes.Repeat([]byte{0xff}, 9)
	for _, c := range []struct {
		b     []byte
		at, n int
		v     uint64
		e     api.Errno
	}{
		{[]byte{0xab, 0xcd}, 4, 8, 0xbc, api.OK},
		{[]byte{0x80}, 0, 1, 1, api.OK},
		{[]byte{0x01}, 7, 1, 1, api.OK},
		{[]byte{0x7f}, 0, 1, 0, api.OK},
		{[]byte{0xab, 0xcd}, 8, 8, 0xcd, api.OK},
		{[]byte{0xab, 0xcd}, 9, 8, 0, api.ErrBits},
		{[]byte{0xab, 0xcd}, 16, 0, 0, api.OK},
		{[]byte{0xab, 0xcd}, 17, 0, 0, api.ErrBits},
		{nil, 0, 0, 0, api.OK},
		{[]byte{}, 0, 0, 0, api.OK},
		{nil, 0, 1, 0, api.ErrBits},
		{nil, 1, 0, 0, api.ErrBits},
		{long, 0, 64, math.MaxUint64, api.OK},
		{long, 8, 64, math.MaxUint64, api.OK},
		{long, 9, 64, 0, api.ErrBits},
		{long, 0, 65, 0, api.ErrBits},
		{long, 7, 65, 0, api.ErrBits},
		{long, 0, 72, 0, api.ErrBits},
	} {
		if v, e := field.Get(c.b, c.at, c.n); v != c.v || e != c.e {
			t.Errorf("Get(%x, %d, %d) = %x, %d", c.b, c.at, c.n, v, e)
		}
	}
}

// P3.1, P3.2, P3.4: bits that are not there.
func TestNowhere(t *testing.T) {
	for _, size := range []int{0, 1, 2, 8, 9, 20} {
		b := bytes.Repeat([]byte{0xff}, size)
		for _, c := range nowhere(size) {
			if v, e := field.Get(b, c.at, c.n); v != 0 || e != api.ErrBits {
				t.Errorf("Get(%x, %d, %d) = %x, %d", b, c.at, c.n, v, e)
			}
			if x, e := field.Put(b, c.at, c.n, 0); x != nil || e != api.ErrBits {
				t.Errorf("Put(%x, %d, %d, 0) = %x, %d", b, c.at, c.n, x, e)
			}
			// Bits that are not there are told ahead of a number that is too great.
			if x, e := field.Put(b, c.at, c.n, math.MaxUint64); x != nil || e != api.ErrBits {
				t.Errorf("Put(%x, %d, %d, ..) = %x, %d", b, c.at, c.n, x, e)
			}
			if s, e := field.Text(b, c.at, c.n); s != "" || e != api.ErrBits {
				t.Errorf("Text(%x, %d, %d) = %q, %d", b, c.at, c.n, s, e)
			}
		}
	}
}

// P3.1, P3.5: every place and number of bits; other bits stay, and what is handed in does.
func TestPut(t *testing.T) {
	r := dice()
	for size := range 14 {
		b := someBytes(r, size)
		all := row(b)
		for at := range 8*size + 1 {
			for n := range min(8*size-at, 64) + 1 {
				for _, v := range []uint64{0, upTo(r, n), math.MaxUint64 >> (64 - n)} {
					testPut(t, b, at, n, v)
				}
			}
		}
		if all != row(b) {
			t.Fatalf("Put changed %s to %x", all, b)
		}
	}
}

func testPut(t *testing.T, b []byte, at, n int, v uint64) {
	t.Helper()
	all := row(b)
	want := all[:at] + digits(v, n) + all[at+n:]
	x, e := field.Put(b, at, n, v)
	if row(x) != want || e != api.OK {
		t.Fatalf("Put(%x, %d, %d, %x) = %x, %d", b, at, n, v, x, e)
	}
	if got, e := field.Get(x, at, n); got != v || e != api.OK {
		t.Fatalf("Get of Put(%x, %d, %d, %x) = %x, %d", b, at, n, v, got, e)
	}
	was, _ := field.Get(b, at, n)
	if x, e := field.Put(b, at, n, was); !bytes.Equal(x, b) || e != api.OK {
		t.Fatalf("Put of Get(%x, %d, %d) = %x, %d", b, at, n, x, e)
	}
}

// P3.1: a number of just n bits, and of one more; n of 0, 64 and 65.
func TestPutWide(t *testing.T) {
	b := make([]byte, 10)
	for n := range 64 {
		most := uint64(1)<<n - 1
		if x, e := field.Put(b, 3, n, most); x == nil || e != api.OK {
			t.Errorf("Put of %d bits, %x: %x, %d", n, most, x, e)
		}
		for _, v := range []uint64{most + 1, most<<1 | 1 | 1<<n, 1 << 63, math.MaxUint64} {
			if x, e := field.Put(b, 3, n, v); x != nil || e != api.ErrArg {
				t.Errorf("Put of %d bits, %x: %x, %d", n, v, x, e)
			}
		}
	}
	if x, e := field.Put(b, 16, 64, math.MaxUint64); row(x) != strings.Repeat("0", 16)+strings.Repeat("1", 64) || e != api.OK {
		t.Errorf("Put of 64 bits: %x, %d", x, e)
	}
	for _, v := range []uint64{0, 1, math.MaxUint64} {
		if x, e := field.Put(b, 0, 65, v); x != nil || e != api.ErrBits {
			t.Errorf("Put of 65 bits, %x: %x, %d", v, x, e)
		}
		if x, e := field.Put(nil, 1, 0, v); x != nil || e != api.ErrBits {
			t.Errorf("Put behind nothing, %x: %x, %d", v, x, e)
		}
	}
	if x, e := field.Put(nil, 0, 0, 0); len(x) != 0 || e != api.OK {
		t.Errorf("Put of nothing: %x, %d", x, e)
	}
	if x, e := field.Put(nil, 0, 0, 1); x != nil || e != api.ErrArg {
		t.Errorf("Put of 1 in no bits: %x, %d", x, e)
	}
	if x, e := field.Put([]byte{0xab, 0xcd}, 4, 8, 0); !bytes.Equal(x, []byte{0xa0, 0x0d}) || e != api.OK {
		t.Errorf("Put(ab cd, 4, 8, 0): %x, %d", x, e)
	}
}

// P3.2: every number of bits, of two that are alike so far and not one bit further.
func TestSameAndLead(t *testing.T) {
	r := dice()
	for range 300 {
		a, b := someBytes(r, r.IntN(12)), someBytes(r, r.IntN(12))
		copy(b, a)
		if most := 8 * min(len(a), len(b)); most > 0 && r.IntN(4) > 0 {
			at := r.IntN(most)
			b[at/8] ^= 0x80 >> (at % 8)
		}
		testSameAndLead(t, a, b)
		testSameAndLead(t, b, a)
		testSameAndLead(t, a, a)
	}
}

func testSameAndLead(t *testing.T, a, b []byte) {
	t.Helper()
	x, y := row(a), row(b)
	both := min(len(x), len(y))
	alike := 0
	for alike < both && x[alike] == y[alike] {
		alike++
	}
	if n := field.Lead(a, b); n != alike {
		t.Fatalf("Lead(%x, %x) = %d", a, b, n)
	}
	for n := range both + 1 {
		if ok, e := field.Same(a, b, n); ok != (x[:n] == y[:n]) || e != api.OK {
			t.Fatalf("Same(%x, %x, %d) = %t, %d", a, b, n, ok, e)
		}
	}
	for _, n := range []int{both + 1, both + 8, max(len(x), len(y)) + 1, -1, -8, math.MaxInt, math.MinInt} {
		if ok, e := field.Same(a, b, n); ok || e != api.ErrBits {
			t.Fatalf("Same(%x, %x, %d) = %t, %d", a, b, n, ok, e)
		}
	}
	if row(a) != x || row(b) != y {
		t.Fatalf("Same or Lead changed %s or %s", x, y)
	}
}

// P3.2: the named edges of Same and Lead.
func TestSameEdges(t *testing.T) {
	if n := field.Lead([]byte{0xab, 0xcd}, []byte{0xaf}); n != 5 {
		t.Errorf("Lead(ab cd, af) = %d", n)
	}
	if n := field.Lead(nil, []byte{1}) + field.Lead([]byte{1}, nil) + field.Lead(nil, []byte{}); n != 0 {
		t.Errorf("Lead of nothing: %d", n)
	}
	if n := field.Lead([]byte{0xab, 0}, []byte{0xab}); n != 8 {
		t.Errorf("Lead(ab 00, ab) = %d", n)
	}
	if ok, e := field.Same(nil, []byte{}, 0); !ok || e != api.OK {
		t.Errorf("Same of nothing: %t, %d", ok, e)
	}
	if ok, e := field.Same(nil, []byte{1}, 0); !ok || e != api.OK {
		t.Errorf("Same of no bits: %t, %d", ok, e)
	}
	long := bytes.Repeat([]byte{0x55}, 40)
	if ok, e := field.Same(long, long, 320); !ok || e != api.OK {
		t.Errorf("Same of 320 bits: %t, %d", ok, e)
	}
	other := append(long[:39:39], 0x54)
	if ok, e := field.Same(long, other, 319); !ok || e != api.OK {
		t.Errorf("Same of 319 bits: %t, %d", ok, e)
	}
	if ok, e := field.Same(long, other, 320); ok || e != api.OK {
		t.Errorf("Same of 320 bits, unlike at the last one: %t, %d", ok, e)
	}
}

// P3.2: from every place on, and from places that may not be.
func TestClear(t *testing.T) {
	r := dice()
	for size := range 12 {
		for _, b := range [][]byte{someBytes(r, size), bytes.Repeat([]byte{0xff}, size)} {
			all := row(b)
			for from := range 8*size + 1 {
				want := all[:from] + strings.Repeat("0", 8*size-from)
				if x, e := field.Clear(b, from); row(x) != want || e != api.OK {
					t.Fatalf("Clear(%s, %d) = %x, %d", all, from, x, e)
				}
			}
			for _, from := range []int{-1, -8, math.MinInt, 8*size + 1, 8*size + 8, math.MaxInt} {
				if x, e := field.Clear(b, from); x != nil || e != api.ErrBits {
					t.Fatalf("Clear(%s, %d) = %x, %d", all, from, x, e)
				}
			}
			if all != row(b) {
				t.Fatalf("Clear changed %s to %x", all, b)
			}
		}
	}
}

// Rule 4: what Put and Clear answer is new memory, also where nothing is to be changed.
func TestCopies(t *testing.T) {
	b := make([]byte, 3, 9)
	put, _ := field.Put(b, 24, 0, 0)
	again, _ := field.Put(b, 24, 0, 0)
	cleared, _ := field.Clear(b, 24)
	for _, x := range [][]byte{put, again, cleared} {
		x = x[:cap(x)]
		for i := range x {
			x[i]++
		}
	}
	for i, x := range b[:cap(b)] {
		if x != 0 {
			t.Errorf("byte %d of what was handed in is %x", i, x)
		}
	}
	for _, x := range [][]byte{put, again, cleared} {
		if !bytes.Equal(x, []byte{1, 1, 1}) {
			t.Errorf("an answer that was written to once is %x", x)
		}
	}
}

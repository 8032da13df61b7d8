package field_test

import (
	"bytes"
	"math"
	"slices"
	"strings"
	"testing"

	"ferryman/api"
	"ferryman/field"
)

// P3.3, P3.6: random runs, one behind the other, and each of them at its place.
func TestCat(t *testing.T) {
	r := dice()
	for range 500 {
		l := make([]api.Run, r.IntN(20))
		want := ""
		for i := range l {
			n := r.IntN(65)
			l[i] = api.Run{N: n, V: upTo(r, n)}
			want += digits(l[i].V, n)
		}
		kept := slices.Clone(l)
		b, e := field.Cat(l...)
		if !bytes.Equal(b, packed(want)) || e != api.OK {
			t.Fatalf("Cat(%x) = %x, %d", l, b, e)
		}
		if !slices.Equal(l, kept) {
			t.Fatalf("Cat changed %x to %x", kept, l)
		}
		at := 0
		for i, x := range l {
			if v, e := field.Get(b, at, x.N); v != x.V || e != api.OK {
				t.Fatalf("run %d of %x: Get = %x, %d", i, l, v, e)
			}
			at += x.N
		}
	}
}

// P3.3: the named edges, and which fault of which run is told.
func TestCatEdges(t *testing.T) {
	good, short, tall := api.Run{N: 4, V: 15}, api.Run{N: -1}, api.Run{N: 65}
	wide := api.Run{N: 4, V: 16}
	for _, c := range []struct {
		l []api.Run
		b string
		e api.Errno
	}{
		{nil, "", api.OK},
		{[]api.Run{}, "", api.OK},
		{[]api.Run{{}}, "", api.OK},
		{[]api.Run{{}, {}}, "", api.OK},
		{[]api.Run{{N: 3, V: 5}, {N: 5, V: 1}}, "\xa1", api.OK},
		{[]api.Run{{N: 1, V: 1}}, "\x80", api.OK},
		{[]api.Run{{N: 8, V: 0xff}, {N: 1, V: 1}}, "\xff\x80", api.OK},
		{[]api.Run{{N: 9}}, "\x00\x00", api.OK},
		{[]api.Run{{N: 64, V: math.MaxUint64}}, "\xff\xff\xff\xff\xff\xff\xff\xff", api.OK},
		{[]api.Run{{N: 4}, {N: 64, V: math.MaxUint64}}, "\x0f\xff\xff\xff\xff\xff\xff\xff\xf0", api.OK},
		{[]api.Run{short}, "", api.ErrBits},
		{[]api.Run{tall}, "", api.ErrBits},
		{[]api.Run{{N: math.MinInt}}, "", api.ErrBits},
		{[]api.Run{{N: math.MaxInt}}, "", api.ErrBits},
		{[]api.Run{{N: math.MaxInt}, {N: math.MaxInt}}, "", api.ErrBits},
		{[]api.Run{wide}, "", api.ErrArg},
		{[]api.Run{{N: 0, V: 1}}, "", api.ErrArg},
		{[]api.Run{{N: 63, V: 1 << 63}}, "", api.ErrArg},
		// A run with both faults has the one that is named first.
		{[]api.Run{{N: -1, V: 1}}, "", api.ErrBits},
		{[]api.Run{{N: 65, V: math.MaxUint64}}, "", api.ErrBits},
		// Of several runs with faults the first one's is told.
		{[]api.Run{good, wide, short}, "", api.ErrArg},
		{[]api.Run{good, wide, tall}, "", api.ErrArg},
		{[]api.Run{good, short, wide}, "", api.ErrBits},
		{[]api.Run{good, tall, wide}, "", api.ErrBits},
		{[]api.Run{{N: 1}, {N: 2}, wide}, "", api.ErrArg},
	} {
		if b, e := field.Cat(c.l...); string(b) != c.b || e != c.e || e != api.OK && b != nil {
			t.Errorf("Cat(%x) = %x, %d", c.l, b, e)
		}
	}
}

// P3.3: just MaxBitsCat bits, and one more; a run with a fault is told ahead of too many.
func TestCatMany(t *testing.T) {
	just := slices.Repeat([]api.Run{{N: 64, V: math.MaxUint64}}, api.MaxBitsCat/64)
	all := strings.Repeat("\xff", api.MaxBitsCat/8)
	if b, e := field.Cat(just...); string(b) != all || e != api.OK {
		t.Errorf("Cat of MaxBitsCat bits: %d bytes, %d", len(b), e)
	}
	if b, e := field.Cat(append(just, api.Run{}, api.Run{})...); string(b) != all || e != api.OK {
		t.Errorf("Cat of MaxBitsCat bits and none: %d bytes, %d", len(b), e)
	}
	for _, c := range []struct {
		r api.Run
		e api.Errno
	}{
		{api.Run{N: 1}, api.ErrMany},
		{api.Run{N: 64, V: math.MaxUint64}, api.ErrMany},
		{api.Run{N: -1}, api.ErrBits},
		{api.Run{N: 65}, api.ErrBits},
		{api.Run{N: 0, V: 1}, api.ErrArg},
		{api.Run{N: 1, V: 2}, api.ErrArg},
	} {
		if b, e := field.Cat(append(just, c.r)...); b != nil || e != c.e {
			t.Errorf("Cat of MaxBitsCat bits and %v: %d bytes, %d", c.r, len(b), e)
		}
		if c.e == api.ErrMany {
			continue
		}
		if b, e := field.Cat(append(just, api.Run{N: 1}, c.r)...); b != nil || e != c.e {
			t.Errorf("Cat of more than MaxBitsCat bits and %v: %d bytes, %d", c.r, len(b), e)
		}
	}
	less := append(just[:len(just)-1:len(just)-1], api.Run{N: 63, V: math.MaxUint64 >> 1})
	if b, e := field.Cat(less...); string(b) != all[1:]+"\xfe" || e != api.OK {
		t.Errorf("Cat of one bit less than MaxBitsCat: %d bytes, %d", len(b), e)
	}
	none := make([]api.Run, api.MaxBitsCat+1)
	if b, e := field.Cat(none...); len(b) != 0 || e != api.OK {
		t.Errorf("Cat of many runs without bits: %d bytes, %d", len(b), e)
	}
}

package ipv4_test

import (
	"bytes"
	"math/rand/v2"
	"reflect"
	"slices"
	"testing"

	"ferryman/api"
	"ferryman/ipv4"
)

// plainOptions is the chapter's reading of options, written apart from the program: those up to the first one that is none, and its place, or -1.
func plainOptions(b []byte, at int) ([]api.Option, int) {
	switch {
	case at >= len(b) || b[at] == 0:
		return nil, -1
	case b[at] == 1:
		return plainOptions(b, at+1)
	case at+1 >= len(b) || b[at+1] < 2 || at+int(b[at+1]) > len(b):
		return nil, at
	}
	behind := at + int(b[at+1])
	l, place := plainOptions(b, behind)
	return append([]api.Option{{Kind: b[at], Data: b[at+2 : behind]}}, l...), place
}

func sameOptions(a, b []api.Option) bool {
	return slices.EqualFunc(a, b, func(x, y api.Option) bool {
		return x.Kind == y.Kind && bytes.Equal(x.Data, y.Data)
	})
}

// testOptions holds Options and Routed against the chapter's reading.
func testOptions(t *testing.T, b []byte) {
	t.Helper()
	l, place := plainOptions(b, 0)
	routed := slices.ContainsFunc(l, func(o api.Option) bool {
		return (o.Kind == 131 || o.Kind == 137) && len(o.Data) > 0 && int(o.Data[0]) <= 2+len(o.Data)
	})
	if got := ipv4.Routed(b); got != routed {
		t.Fatalf("Routed(%d) = %t", b, got)
	}
	got, at, e := ipv4.Options(b)
	if place < 0 && (!sameOptions(got, l) || at != 0 || e != api.OK) {
		t.Fatalf("Options(%d) = %v, %d, %d; want %v", b, got, at, e, l)
	}
	if place >= 0 && (got != nil || at != place || e != api.ErrOption) {
		t.Fatalf("Options(%d) = %v, %d, %d; want none at %d", b, got, at, e, place)
	}
}

// P4.5: the edges that the chapter names.
func TestOptionsEdges(t *testing.T) {
	long := append([]byte{7, 255}, make([]byte, 253)...)
	for _, c := range []struct {
		b  []byte
		l  []api.Option
		at int
		e  api.Errno
	}{
		{nil, nil, 0, api.OK},
		{[]byte{}, nil, 0, api.OK},
		{[]byte{0}, nil, 0, api.OK},
		{[]byte{1}, nil, 0, api.OK},
		{[]byte{1, 1, 1, 1}, nil, 0, api.OK},
		{[]byte{0, 7, 0, 9}, nil, 0, api.OK},
		{[]byte{1, 0, 7}, nil, 0, api.OK},
		{[]byte{0, 7, 3, 9}, nil, 0, api.OK},
		{[]byte{7, 2}, []api.Option{{Kind: 7}}, 0, api.OK},
		{[]byte{7, 3, 9}, []api.Option{{Kind: 7, Data: []byte{9}}}, 0, api.OK},
		{[]byte{7, 3, 9, 0, 5}, []api.Option{{Kind: 7, Data: []byte{9}}}, 0, api.OK},
		{[]byte{2, 2, 1, 255, 4, 0, 1, 1}, []api.Option{{Kind: 2}, {Kind: 255, Data: []byte{0, 1}}}, 0, api.OK},
		{[]byte{7, 2, 7, 2}, []api.Option{{Kind: 7}, {Kind: 7}}, 0, api.OK},
		{[]byte{7, 4, 0, 0, 8, 2}, []api.Option{{Kind: 7, Data: []byte{0, 0}}, {Kind: 8}}, 0, api.OK},
		{long, []api.Option{{Kind: 7, Data: make([]byte, 253)}}, 0, api.OK},
		{[]byte{7}, nil, 0, api.ErrOption},
		{[]byte{7, 0}, nil, 0, api.ErrOption},
		{[]byte{7, 1}, nil, 0, api.ErrOption},
		{[]byte{7, 3}, nil, 0, api.ErrOption},
		{[]byte{7, 1, 0, 0}, nil, 0, api.ErrOption},
		{[]byte{1, 7}, nil, 1, api.ErrOption},
		{[]byte{1, 7, 1}, nil, 1, api.ErrOption},
		{[]byte{7, 2, 1, 8, 3}, nil, 3, api.ErrOption},
		{[]byte{7, 2, 8, 4, 0}, nil, 2, api.ErrOption},
		{[]byte{7, 2, 8, 2, 9}, nil, 4, api.ErrOption},
		{[]byte{7, 3, 9, 8, 1, 6, 0}, nil, 3, api.ErrOption},
		{long[:254], nil, 0, api.ErrOption},
	} {
		if l, at, e := ipv4.Options(c.b); !sameOptions(l, c.l) || at != c.at || e != c.e || e != api.OK && l != nil {
			t.Errorf("Options(%d) = %v, %d, %d", c.b, l, at, e)
		}
		testOptions(t, c.b)
	}
}

// P4.5, P4.6: each row of up to six of the letters that make a difference.
func TestOptionsAll(t *testing.T) {
	letters := []byte{0, 1, 2, 3, 4, 131, 137}
	rows := [][]byte{nil}
	for len(rows) > 0 {
		b := rows[len(rows)-1]
		rows = rows[:len(rows)-1]
		testOptions(t, b)
		if len(b) == 6 {
			continue
		}
		for _, x := range letters {
			rows = append(rows, append(bytes.Clone(b), x))
		}
	}
}

// P4.5, P4.6: random bytes, most of them small, so that many are options.
func TestOptionsRandom(t *testing.T) {
	r := dice()
	for range 30000 {
		b := someBytes(r, r.IntN(60))
		for i := range b {
			if r.IntN(4) > 0 {
				b[i] = []byte{1, 2, 3, 4, 5, 6, 131, 137}[r.IntN(8)]
			}
		}
		testOptions(t, b)
	}
	testOptions(t, bytes.Repeat([]byte{1}, 5000))
	testOptions(t, bytes.Repeat([]byte{7, 2}, 5000))
	testOptions(t, append(bytes.Repeat([]byte{7, 2}, 5000), 7))
}

// P4.6: a source route at its end, one byte ahead of it, without Data, and behind or ahead of what is no option.
func TestRouted(t *testing.T) {
	for _, kind := range []byte{131, 137} {
		for _, c := range []struct {
			b    []byte
			want bool
		}{
			{[]byte{kind, 7, 7, 1, 2, 3, 4}, true},
			{[]byte{kind, 7, 8, 1, 2, 3, 4}, false},
			{[]byte{kind, 7, 6, 1, 2, 3, 4}, true},
			{[]byte{kind, 7, 4, 1, 2, 3, 4}, true},
			{[]byte{kind, 7, 0, 1, 2, 3, 4}, true},
			{[]byte{kind, 7, 255, 1, 2, 3, 4}, false},
			{[]byte{kind, 3, 3}, true},
			{[]byte{kind, 3, 4}, false},
			{[]byte{kind, 3, 2}, true},
			{[]byte{kind, 2}, false},
			{[]byte{kind, 2, 0}, false},
			{[]byte{kind, 2, 7, 3, 3}, false},
			{[]byte{kind}, false},
			{[]byte{kind, 1}, false},
			{[]byte{kind, 7, 4, 1, 2, 3}, false},
			{[]byte{kind, 7}, false},
			{[]byte{1, kind, 3, 3}, true},
			{[]byte{0, kind, 3, 3}, false},
			{[]byte{7, 3, 9, kind, 3, 3, 0}, true},
			{[]byte{7, 5, kind, 3, 3}, false},
			{[]byte{kind, 3, 4, kind, 3, 3}, true},
			{[]byte{kind, 3, 3, kind, 3, 4}, true},
			{[]byte{kind, 3, 3, 7, 1}, true},
			{[]byte{kind, 3, 3, 7}, true},
			{[]byte{7, 1, kind, 3, 3}, false},
			{[]byte{7, 0, kind, 3, 3}, false},
			{[]byte{kind, 3, 4, 7, 1, kind, 3, 3}, false},
		} {
			if got := ipv4.Routed(c.b); got != c.want {
				t.Errorf("Routed(%d) = %t", c.b, got)
			}
		}
	}
	for kind := range 256 {
		want := kind == 131 || kind == 137
		if got := ipv4.Routed([]byte{byte(kind), 3, 3}); got != want {
			t.Errorf("kind %d: %t", kind, got)
		}
	}
	if ipv4.Routed(nil) || ipv4.Routed([]byte{}) {
		t.Error("nothing is routed")
	}
}

// sized is an option with so many bytes of Data.
func sized(kind byte, n int) api.Option { return api.Option{Kind: kind, Data: make([]byte, n)} }

// P4.5: the edges that the chapter names, and which error is told first.
func TestPackEdges(t *testing.T) {
	many := slices.Repeat([]api.Option{{Kind: 7}}, 20)
	for _, c := range []struct {
		l []api.Option
		b []byte
		e api.Errno
	}{
		{nil, nil, api.OK},
		{[]api.Option{}, nil, api.OK},
		{[]api.Option{{Kind: 7}}, []byte{7, 2, 0, 0}, api.OK},
		{[]api.Option{{Kind: 2, Data: []byte{}}}, []byte{2, 2, 0, 0}, api.OK},
		{[]api.Option{{Kind: 7, Data: []byte{9}}}, []byte{7, 3, 9, 0}, api.OK},
		{[]api.Option{{Kind: 7, Data: []byte{9, 8}}}, []byte{7, 4, 9, 8}, api.OK},
		{[]api.Option{{Kind: 255, Data: []byte{9, 8, 7}}}, []byte{255, 5, 9, 8, 7, 0, 0, 0}, api.OK},
		{[]api.Option{{Kind: 7}, {Kind: 8}}, []byte{7, 2, 8, 2}, api.OK},
		{[]api.Option{{Kind: 131, Data: []byte{4, 1, 2, 3, 4}}, {Kind: 7, Data: []byte{9}}}, []byte{131, 7, 4, 1, 2, 3, 4, 7, 3, 9, 0, 0}, api.OK},
		{[]api.Option{sized(7, 38)}, append([]byte{7, 40}, make([]byte, 38)...), api.OK},
		{[]api.Option{sized(7, 35)}, append([]byte{7, 37}, make([]byte, 38)...), api.OK},
		{many, bytes.Repeat([]byte{7, 2}, 20), api.OK},
		{[]api.Option{{}}, nil, api.ErrOption},
		{[]api.Option{{Kind: 1}}, nil, api.ErrOption},
		{[]api.Option{{Kind: 0, Data: []byte{1}}}, nil, api.ErrOption},
		{[]api.Option{{Kind: 7}, {Kind: 1, Data: []byte{1}}}, nil, api.ErrOption},
		{[]api.Option{sized(7, 39)}, nil, api.ErrOption},
		{[]api.Option{{Kind: 7}, sized(7, 39)}, nil, api.ErrOption},
		{[]api.Option{sized(7, 253)}, nil, api.ErrOption},
		{[]api.Option{sized(7, 254)}, nil, api.ErrOption},
		{[]api.Option{sized(7, 1<<16)}, nil, api.ErrOption},
		{[]api.Option{sized(7, 36), {Kind: 8}}, append([]byte{7, 38}, append(make([]byte, 36), 8, 2)...), api.OK},
		{[]api.Option{sized(7, 37), {Kind: 8}}, nil, api.ErrLong},
		{[]api.Option{sized(7, 38), {Kind: 8}}, nil, api.ErrLong},
		{[]api.Option{sized(7, 18), sized(8, 19)}, nil, api.ErrLong},
		{append(many, api.Option{Kind: 7}), nil, api.ErrLong},
		// What is no option is told ahead of too many bytes, wherever it stands.
		{[]api.Option{sized(7, 38), {Kind: 8}, {Kind: 1}}, nil, api.ErrOption},
		{[]api.Option{sized(7, 38), {Kind: 8}, {}}, nil, api.ErrOption},
		{[]api.Option{sized(7, 38), {Kind: 8}, sized(7, 39)}, nil, api.ErrOption},
		{append(many, api.Option{Kind: 7}, api.Option{Kind: 0}), nil, api.ErrOption},
	} {
		b, e := ipv4.Pack(c.l...)
		if !bytes.Equal(b, c.b) || e != c.e || e != api.OK && b != nil {
			t.Errorf("Pack(%v) = %d, %d", c.l, b, e)
		}
	}
	if b, e := ipv4.Pack(); len(b) != 0 || e != api.OK {
		t.Errorf("Pack() = %d, %d", b, e)
	}
	for kind := range 256 {
		if _, e := ipv4.Pack(api.Option{Kind: byte(kind)}); (e == api.OK) != (kind > 1) {
			t.Errorf("Pack of kind %d: %d", kind, e)
		}
	}
}

// someOptions are options of at most 40 bytes in all.
func someOptions(r *rand.Rand) []api.Option {
	var l []api.Option
	for left := 2 + r.IntN(39); left >= 2 && r.IntN(8) > 0; {
		n := r.IntN(min(left-1, 39))
		l = append(l, api.Option{Kind: byte(2 + r.IntN(254)), Data: someBytes(r, n)})
		left -= 2 + n
	}
	return l
}

// P4.8: Options of Pack are the options, and Pack's bytes may be a datagram's Options.
func TestOptionsOfPack(t *testing.T) {
	r := dice()
	for range 5000 {
		l := someOptions(r)
		want := []byte{}
		for _, o := range l {
			want = append(append(want, o.Kind, byte(2+len(o.Data))), o.Data...)
		}
		for len(want)%4 != 0 {
			want = append(want, 0)
		}
		b, e := ipv4.Pack(l...)
		if e != api.OK || !bytes.Equal(b, want) {
			t.Fatalf("Pack(%v) = %d, %d", l, b, e)
		}
		if got, at, e := ipv4.Options(b); !sameOptions(got, l) || at != 0 || e != api.OK {
			t.Fatalf("Options of Pack(%v) = %v, %d, %d", l, got, at, e)
		}
		if e := ipv4.Check(api.V4{Options: b}); e != api.OK {
			t.Fatalf("Check with Pack(%v): %d", l, e)
		}
	}
}

// Rule 4: Options and Pack change nothing, and share nothing.
func TestOptionsMemory(t *testing.T) {
	store := []byte{1, 7, 4, 9, 8, 131, 3, 3, 68, 2, 0, 5, 6, 7}
	was := bytes.Clone(store)
	b := store[:11]
	l, _, _ := ipv4.Options(b)
	again, _, _ := ipv4.Options(b)
	ipv4.Routed(b)
	want := []api.Option{{Kind: 7, Data: []byte{9, 8}}, {Kind: 131, Data: []byte{3}}, {Kind: 68}}
	for i := range l {
		spoil(l[i].Data)
		for k := i + 1; k < len(l); k++ {
			if !sameOptions(l[k:], want[k:]) {
				t.Errorf("option %d changed with option %d: %v", k, i, l)
			}
		}
	}
	if !bytes.Equal(store, was) || !sameOptions(again, want) {
		t.Errorf("with an answer changed %d, %v", store, again)
	}
	given := slices.Clone(want)
	p, _ := ipv4.Pack(given...)
	q, _ := ipv4.Pack(given...)
	spoil(p)
	if !reflect.DeepEqual(given, want) || !bytes.Equal(q, []byte{7, 4, 9, 8, 131, 3, 3, 68, 2, 0, 0, 0}) {
		t.Errorf("with an answer changed %v, %d", given, q)
	}
	given[0].Data[0] = 77
	if q[2] != 9 {
		t.Errorf("with an argument changed %d", q)
	}
	b[3] = 77
	if again[0].Data[0] != 9 {
		t.Errorf("with an argument changed %v", again)
	}
}

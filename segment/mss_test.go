package segment_test

import (
	"bytes"
	"math"
	"math/rand/v2"
	"testing"

	"ferryman/api"
	"ferryman/segment"
)

// plainMSS is the place of the maximum segment size in options, by the chapter's reading of them, written apart from the program; -1: there is none.
func plainMSS(b []byte, at int) int {
	switch {
	case at >= len(b) || b[at] == 0:
		return -1
	case b[at] == 1:
		return plainMSS(b, at+1)
	case at+1 >= len(b) || b[at+1] < 2 || at+int(b[at+1]) > len(b):
		return -1
	case b[at] == 2 && b[at+1] == 4:
		return at + 2
	}
	return plainMSS(b, at+int(b[at+1]))
}

// testMSS holds MSS and Clamp against the chapter's reading, at bounds around what there is and at far ones.
func testMSS(t *testing.T, s api.TCP) {
	t.Helper()
	at := -1
	if s.Flags&2 != 0 {
		at = plainMSS(s.Options, 0)
	}
	size, there := 0, at >= 0
	if there {
		size = 256*int(s.Options[at]) + int(s.Options[at+1])
	}
	if n, ok := segment.MSS(s); n != size || ok != there {
		t.Fatalf("MSS of Flags %d, Options %d: %d, %t; want %d, %t", s.Flags, s.Options, n, ok, size, there)
	}
	for _, most := range []int{math.MinInt, -65536, -1, 0, 1, size - 1, size, size + 1, 255, 256, 65535, 65536, 65536 + size - 1, math.MaxInt} {
		want := s
		want.Options = bytes.Clone(s.Options)
		turned := there && size > most
		if turned {
			low := max(most, 0)
			want.Options[at], want.Options[at+1] = byte(low>>8), byte(low)
		}
		got, ok := segment.Clamp(s, most)
		if !likeTCP(got, want) || ok != turned {
			t.Fatalf("Clamp of Flags %d, Options %d to %d: %+v, %t; want %+v, %t", s.Flags, s.Options, most, got, ok, want, turned)
		}
		testClamped(t, got, most, size, there)
	}
}

// testClamped holds what was clamped against P6.10, and asks that clamping it again turns nothing.
func testClamped(t *testing.T, got api.TCP, most, size int, there bool) {
	t.Helper()
	lesser := min(max(most, 0), size)
	if n, ok := segment.MSS(got); ok != there || there && n != lesser {
		t.Fatalf("MSS of Clamp to %d: %d, %t; want %d", most, n, ok, lesser)
	}
	again, turned := segment.Clamp(got, max(most, 0))
	if turned || !likeTCP(again, got) {
		t.Fatalf("clamped again to %d: %+v, %t", most, again, turned)
	}
}

// P6.4: the edges that the chapter names.
func TestMSSEdges(t *testing.T) {
	long := append([]byte{9, 255}, make([]byte, 253)...)
	for _, c := range []struct {
		name    string
		options []byte
		size    int
		there   bool
	}{
		{"nil", nil, 0, false},
		{"empty", []byte{}, 0, false},
		{"alone", []byte{2, 4, 5, 0xb4}, 1460, true},
		{"0", []byte{2, 4, 0, 0}, 0, true},
		{"1", []byte{2, 4, 0, 1}, 1, true},
		{"65535", []byte{2, 4, 255, 255}, 65535, true},
		{"no Data", []byte{2, 2, 0, 0}, 0, false},
		{"1 byte of Data", []byte{2, 3, 5, 0}, 0, false},
		{"3 bytes of Data", []byte{2, 5, 5, 5, 5, 0, 0, 0}, 0, false},
		{"1 byte of Data, then 2", []byte{2, 3, 5, 2, 4, 1, 2, 0}, 0x102, true},
		{"3 bytes of Data, then 2", []byte{2, 5, 5, 5, 5, 2, 4, 1, 2}, 0x102, true},
		{"no Data, then 2 bytes", []byte{2, 2, 2, 4, 1, 2}, 0x102, true},
		{"behind ones of one byte", []byte{1, 1, 1, 2, 4, 5, 0xb4, 0}, 1460, true},
		{"behind others", []byte{3, 3, 7, 4, 2, 8, 10, 1, 2, 3, 4, 5, 6, 7, 8, 2, 4, 1, 2, 0}, 0x102, true},
		{"behind one that holds the like", []byte{8, 6, 2, 4, 9, 9, 2, 4, 1, 2, 0, 0}, 0x102, true},
		{"within another one", []byte{8, 6, 2, 4, 9, 9, 0, 0}, 0, false},
		{"behind a long one", append(bytes.Clone(long), 2, 4, 1, 2), 0x102, true},
		{"twice", []byte{2, 4, 1, 2, 2, 4, 3, 4}, 0x102, true},
		{"twice, the second less", []byte{2, 4, 3, 4, 2, 4, 1, 2}, 0x304, true},
		{"behind an end", []byte{0, 2, 4, 1, 2, 0, 0, 0}, 0, false},
		{"behind others and an end", []byte{1, 3, 3, 7, 0, 2, 4, 1, 2}, 0, false},
		{"ahead of an end", []byte{2, 4, 1, 2, 0, 9, 9, 9}, 0x102, true},
		{"behind a length 0", []byte{7, 0, 2, 4, 1, 2, 0, 0}, 0, false},
		{"behind a length 1", []byte{7, 1, 2, 4, 1, 2, 0, 0}, 0, false},
		{"behind one that is not there", []byte{7, 9, 2, 4, 1, 2, 0, 0}, 0, false},
		{"behind its own length 0", []byte{2, 0, 2, 4, 1, 2, 0, 0}, 0, false},
		{"behind its own length 1", []byte{2, 1, 2, 4, 1, 2, 0, 0}, 0, false},
		{"ahead of what is no option", []byte{2, 4, 1, 2, 7, 0, 9, 9}, 0x102, true},
		{"ahead of a kind alone", []byte{2, 4, 1, 2, 7}, 0x102, true},
		{"cut off: kind", []byte{2}, 0, false},
		{"cut off: length", []byte{2, 4}, 0, false},
		{"cut off: one byte", []byte{2, 4, 1}, 0, false},
		{"cut off behind others", []byte{1, 3, 3, 7, 2, 4, 1}, 0, false},
		{"another kind", []byte{3, 4, 1, 2}, 0, false},
		{"kind 130", []byte{130, 4, 1, 2}, 0, false},
	} {
		for f := range 256 {
			s := api.TCP{Src: 3, Seq: 9, Flags: uint8(f), Options: c.options, Data: []byte{1, 2, 3}}
			size, there := c.size, c.there
			if f&2 == 0 {
				size, there = 0, false
			}
			if n, ok := segment.MSS(s); n != size || ok != there {
				t.Errorf("%s, Flags %d: %d, %t", c.name, f, n, ok)
			}
		}
		testMSS(t, api.TCP{Flags: 2, Options: c.options})
		testMSS(t, api.TCP{Flags: 18, Options: c.options, Data: []byte{1, 2, 3}})
		testMSS(t, api.TCP{Flags: 16, Options: c.options})
	}
}

// P6.4: Clamp at the edges of most.
func TestClampEdges(t *testing.T) {
	for _, c := range []struct {
		size, most, want int
		turned           bool
	}{
		{1460, 1240, 1240, true},
		{1460, 1459, 1459, true},
		{1460, 1460, 1460, false},
		{1460, 1461, 1460, false},
		{1460, 0, 0, true},
		{1460, -1, 0, true},
		{1460, math.MinInt, 0, true},
		{1460, 65535, 1460, false},
		{1460, 65536, 1460, false},
		{1460, 65537, 1460, false},
		{1460, math.MaxInt, 1460, false},
		{65535, 65534, 65534, true},
		{65535, 65535, 65535, false},
		{65535, 65536, 65535, false},
		{65535, -65536, 0, true},
		{256, 255, 255, true},
		{1, 0, 0, true},
		{0, 0, 0, false},
		{0, 1, 0, false},
		{0, -1, 0, true}, // it is above most, and 0 stands in its place
	} {
		s := api.TCP{Src: 1, Dst: 2, Seq: 3, Ack: 4, Flags: api.FlagSYN, Window: 5, Urgent: 6, Data: []byte{7}}
		s.Options = []byte{1, 2, 4, byte(c.size >> 8), byte(c.size), 3, 3, 7}
		want := s
		want.Options = []byte{1, 2, 4, byte(c.want >> 8), byte(c.want), 3, 3, 7}
		if got, turned := segment.Clamp(s, c.most); !likeTCP(got, want) || turned != c.turned {
			t.Errorf("%d to %d: %+v, %t", c.size, c.most, got, turned)
		}
	}
}

// P6.4, P6.10: without a maximum segment size all is the same.
func TestClampWithout(t *testing.T) {
	for _, s := range []api.TCP{
		{},
		{Options: []byte{}, Data: []byte{}},
		{Src: 1, Dst: 2, Seq: 3, Ack: 4, Flags: 16, Window: 5, Urgent: 6, Options: []byte{2, 4, 5, 6}, Data: []byte{7}},
		{Src: 1, Flags: 255, Options: []byte{2, 3, 5}, Data: []byte{7}},
		{Flags: 253, Options: []byte{2, 4, 5, 6}, Data: []byte{7}},
	} {
		for _, most := range []int{math.MinInt, -1, 0, 1, 65536} {
			if got, turned := segment.Clamp(s, most); !likeTCP(got, s) || turned {
				t.Errorf("%+v to %d: %+v, %t", s, most, got, turned)
			}
		}
	}
}

// P6.4: each row of up to seven of the bytes that make a difference.
func TestMSSAll(t *testing.T) {
	letters := []byte{0, 1, 2, 3, 4, 5}
	rows := [][]byte{nil}
	for len(rows) > 0 {
		b := rows[len(rows)-1]
		rows = rows[:len(rows)-1]
		s := api.TCP{Flags: api.FlagSYN, Options: b}
		at := plainMSS(b, 0)
		n, ok := segment.MSS(s)
		if ok != (at >= 0) || ok && n != 256*int(b[at])+int(b[at+1]) || !ok && n != 0 {
			t.Fatalf("%d: %d, %t; want it at %d", b, n, ok, at)
		}
		if len(b) == 7 {
			continue
		}
		for _, x := range letters {
			rows = append(rows, append(bytes.Clone(b), x))
		}
	}
}

// someOptions is bytes most of which are options.
func someOptions(r *rand.Rand) []byte {
	b := []byte{}
	for range r.IntN(8) {
		switch r.IntN(6) {
		case 0:
			b = append(b, byte(r.IntN(2)))
		case 1:
			b = append(b, 1)
		case 2, 3:
			b = append(b, 2, 4, byte(r.Uint32()), byte(r.Uint32()))
		case 4:
			n := r.IntN(6)
			b = append(append(b, byte(2+r.IntN(4)), byte(2+n)), someBytes(r, n)...)
		case 5:
			b = append(b, someBytes(r, 1+r.IntN(3))...)
		}
	}
	return b[:max(0, len(b)-r.IntN(3))]
}

// P6.4, P6.10: random options, also of segments that may not be.
func TestMSSRandom(t *testing.T) {
	r := dice()
	there := 0
	for range 20000 {
		s := someTCP(r)
		s.Flags, s.Options = byte(r.Uint32())|byte(r.IntN(2)*2), someOptions(r)
		testMSS(t, s)
		if _, ok := segment.MSS(s); ok {
			there++
		}
		s.Options = someBytes(r, r.IntN(300))
		testMSS(t, s)
	}
	if there < 5000 {
		t.Errorf("only %d had one", there)
	}
}

// P6.10: clamped there and back: what is written of it is read as it.
func TestClampedThereAndBack(t *testing.T) {
	r := dice()
	for range 500 {
		for _, n := range networks(r) {
			s := someTCP(r)
			s.Flags |= api.FlagSYN
			size, most := uint16(r.Uint32()), r.IntN(65536)
			s.Options = []byte{3, 3, 7, 2, 4, byte(size >> 8), byte(size), 0}
			c, _ := segment.Clamp(s, most)
			b, e := n.writeTCP(c)
			v, f := n.parseTCP(b)
			if got, ok := segment.MSS(v); e != api.OK || f != api.OK || !ok || got != min(int(size), most) {
				t.Fatalf("%s: %+v to %d: %d, %t, %d, %d", n.name, s, most, got, ok, e, f)
			}
			v.Options = s.Options
			if !likeTCP(v, s) {
				t.Fatalf("%s: %+v to %d: %+v", n.name, s, most, v)
			}
		}
	}
}

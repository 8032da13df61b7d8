package sum_test

import (
	"bytes"
	"math"
	"math/rand/v2"
	"slices"
	"testing"

	"ferryman/api"
	"ferryman/sum"
)

// plainSum is the document's sum by its words: one row of bytes, a number without bound, its overflow added again.
func plainSum(parts ...[]byte) uint16 {
	row := slices.Concat(parts...)
	if len(row)%2 == 1 {
		row = append(row, 0)
	}
	n := uint64(0)
	for i := 0; i < len(row); i += 2 {
		n += uint64(row[i])<<8 + uint64(row[i+1])
	}
	for n > 0xffff {
		n = n&0xffff + n>>16
	}
	return uint16(n)
}

// seeded gives the same numbers in each run.
func seeded() *rand.Rand { return rand.New(rand.NewPCG(1, 71)) }

// someBytes are n bytes, often 0 or 255, since there the sum has its edges.
func someBytes(r *rand.Rand, n int) []byte {
	row := make([]byte, n)
	kind := r.IntN(4)
	for i := range row {
		switch {
		case kind == 0:
			row[i] = 0
		case kind == 1:
			row[i] = 255
		case kind == 2:
			row[i] = byte(r.IntN(2) * 255)
		default:
			row[i] = byte(r.UintN(256))
		}
	}
	return row
}

func putWord(row []byte, at int, w uint16) { row[at], row[at+1] = byte(w>>8), byte(w) }

// P1.1

func TestFoldOfGood(t *testing.T) {
	cases := []struct {
		name  string
		parts [][]byte
		fold  uint16
	}{
		{"no parts", nil, 0},
		{"a nil part", [][]byte{nil}, 0},
		{"an empty part", [][]byte{{}}, 0},
		{"zeros", [][]byte{{0, 0, 0}}, 0},
		{"RFC 1071", [][]byte{{0, 1, 0xf2, 3, 0xf4, 0xf5, 0xf6, 0xf7}}, 0xddf2},
		{"an odd byte alone", [][]byte{{1}}, 0x0100},
		{"an odd byte left over", [][]byte{{1, 2, 3}}, 0x0402},
		{"a carry", [][]byte{{0xff, 0xff, 0, 1}}, 1},
		{"ones stay ones", [][]byte{{0xff, 0xff, 0xff, 0xff}}, 0xffff},
		{"to 65535 without a carry", [][]byte{{0xff, 0xfe, 0, 1}}, 0xffff},
		{"one past 65535", [][]byte{{0xff, 0xfe, 0, 2}}, 1},
		{"ones in two parts", [][]byte{{0xff}, {0xff}}, 0xffff},
		{"an odd byte in the last part", [][]byte{{0, 1}, {2}}, 0x0201},
	}
	for _, c := range cases {
		if n := sum.Fold(c.parts...); n != c.fold {
			t.Errorf("%s: Fold = %04x, want %04x", c.name, n, c.fold)
		}
		if n := sum.Of(c.parts...); n != 0xffff-c.fold {
			t.Errorf("%s: Of = %04x, want %04x", c.name, n, 0xffff-c.fold)
		}
		if g := sum.Good(c.parts...); g != (c.fold == 0xffff) {
			t.Errorf("%s: Good = %t", c.name, g)
		}
	}
}

func TestExamplesOfOne(t *testing.T) {
	if n := sum.Of([]byte{0, 1, 0xf2, 3, 0xf4, 0xf5, 0xf6, 0xf7}); n != 0x220d {
		t.Errorf("Of = %04x", n)
	}
	if n := sum.Of(); n != 0xffff {
		t.Errorf("Of() = %04x", n)
	}
	if n := sum.Of([]byte{1}); n != 0xfeff {
		t.Errorf("Of(01) = %04x", n)
	}
	if !sum.Good([]byte{0xff}, []byte{0xff}) {
		t.Error("Good(ff, ff) = false")
	}
}

// Wherever a row is cut in four, empty parts and odd seams among them, it stays the same row.
func TestSeams(t *testing.T) {
	row := []byte{0xff, 0xfe, 0x80, 0x01, 0x7f, 0x33, 0xfe, 0xdc, 0x99}
	for n := range len(row) + 1 {
		whole := row[:n]
		want := plainSum(whole)
		for a := range n + 1 {
			for b := a; b <= n; b++ {
				for c := b; c <= n; c++ {
					got := sum.Fold(whole[:a], whole[a:b], whole[b:c], whole[c:])
					if got != want {
						t.Fatalf("%d bytes cut at %d, %d, %d: %04x, want %04x", n, a, b, c, got, want)
					}
				}
			}
		}
	}
}

func TestFoldOfManyBytes(t *testing.T) {
	r := seeded()
	for range 3000 {
		parts := make([][]byte, r.IntN(6))
		for i := range parts {
			parts[i] = someBytes(r, r.IntN(12))
		}
		want := plainSum(parts...)
		if n := sum.Fold(parts...); n != want {
			t.Fatalf("Fold(%x) = %04x, want %04x", parts, n, want)
		}
		if n := sum.Of(parts...); n != ^want {
			t.Fatalf("Of(%x) = %04x, want %04x", parts, n, ^want)
		}
	}
}

// So many ones go beyond 32 bits before they are folded.
func TestFoldOfLongRows(t *testing.T) {
	ones := bytes.Repeat([]byte{0xff}, 1<<20)
	if n := sum.Fold(ones); n != 0xffff {
		t.Errorf("Fold of a MiB of ones = %04x", n)
	}
	if n := sum.Fold(ones[1:], []byte{0, 5}); n != plainSum(ones[1:], []byte{0, 5}) {
		t.Errorf("Fold of a long odd row = %04x", n)
	}
	single := make([][]byte, 200001)
	for i := range single {
		single[i] = []byte{0xfe}
	}
	if n := sum.Fold(single...); n != plainSum(single...) {
		t.Errorf("Fold of many parts = %04x", n)
	}
}

// Whatever holds its checksum is Good, and with another word in its place it is not.
func TestGoodWithItsChecksum(t *testing.T) {
	r := seeded()
	for range 1000 {
		row := someBytes(r, 2+r.IntN(20))
		at := 2 * r.IntN(len(row)/2)
		putWord(row, at, 0)
		check := sum.Of(row)
		putWord(row, at, check)
		if !sum.Good(row) {
			t.Fatalf("Good(%x) = false", row)
		}
		putWord(row, at, check+1+uint16(r.IntN(0xfffd)))
		if sum.Good(row) != (plainSum(row) == 0xffff) {
			t.Fatalf("Good(%x) = %t", row, sum.Good(row))
		}
	}
}

// P1.2

var wrongLengths = []int{-1, api.MaxPacket + 1, math.MinInt, math.MaxInt, -65536}

func TestPseudo4(t *testing.T) {
	src, dst := api.Addr4{192, 0, 2, 18}, api.Addr4{198, 51, 100, 7}
	for _, n := range []int{0, 1, 255, 256, 300, 65534, 65535} {
		want := []byte{192, 0, 2, 18, 198, 51, 100, 7, 0, 17, byte(n / 256), byte(n % 256)}
		if b, e := sum.Pseudo4(src, dst, 17, n); e != api.OK || !bytes.Equal(b, want) {
			t.Errorf("length %d: %x, %d, want %x", n, b, e, want)
		}
	}
	if b, e := sum.Pseudo4(src, dst, 255, 0); e != api.OK || b[8] != 0 || b[9] != 255 {
		t.Errorf("protocol 255: %x, %d", b, e)
	}
	for _, n := range wrongLengths {
		if b, e := sum.Pseudo4(src, dst, 17, n); e != api.ErrLong || len(b) != 0 {
			t.Errorf("length %d: %x, %d", n, b, e)
		}
	}
}

func TestPseudo6(t *testing.T) {
	var src, dst api.Addr6
	for i := range src {
		src[i], dst[i] = byte(i+1), byte(i+101)
	}
	for _, n := range []int{0, 1, 255, 256, 300, 65534, 65535} {
		want := slices.Concat(src[:], dst[:], []byte{0, 0, byte(n / 256), byte(n % 256), 0, 0, 0, 58})
		if b, e := sum.Pseudo6(src, dst, 58, n); e != api.OK || !bytes.Equal(b, want) {
			t.Errorf("length %d: %x, %d, want %x", n, b, e, want)
		}
	}
	for _, n := range wrongLengths {
		if b, e := sum.Pseudo6(src, dst, 58, n); e != api.ErrLong || len(b) != 0 {
			t.Errorf("length %d: %x, %d", n, b, e)
		}
	}
}

// P1.3 and P1.4

var unpaired = [][2][]byte{
	{{1}, {1}},
	{{1, 2, 3}, {4, 5, 6}},
	{{1, 2}, {1, 2, 3, 4}},
	{{1, 2, 3, 4}, {1, 2}},
	{{1, 2}, {1}},
	{{1, 2}, nil},
	{nil, {1, 2}},
	{{}, {0}},
}

func TestUpdate(t *testing.T) {
	cases := []struct {
		was      uint16
		from, to []byte
		want     uint16
	}{
		{0xdd2f, []byte{0x55, 0x55}, []byte{0x32, 0x85}, 0x0000},
		{0, nil, nil, 0},
		{0xffff, nil, nil, 0xffff},
		{0x1234, nil, []byte{}, 0x1234},
		{0x1234, []byte{}, nil, 0x1234},
		// Words that change to themselves leave only a checksum of 65535 as 0.
		{0x1234, []byte{7, 8}, []byte{7, 8}, 0x1234},
		{0xffff, []byte{7, 8}, []byte{7, 8}, 0},
		{0, []byte{7, 8}, []byte{7, 8}, 0},
		// A sum of nothing but words 0 is 0, so its checksum is 65535.
		{0xffff, []byte{0xff, 0xff}, []byte{0, 0}, 0xffff},
		{0xffff, []byte{0, 0}, []byte{0, 0}, 0},
		{0, []byte{0xff, 0xff}, []byte{0, 0}, 0},
		{0x0001, []byte{0, 1, 0, 2}, []byte{0, 3, 0, 4}, 0xfffc},
	}
	for _, c := range cases {
		if n, e := sum.Update(c.was, c.from, c.to); n != c.want || e != api.OK {
			t.Errorf("Update(%04x, %x, %x) = %04x, %d, want %04x", c.was, c.from, c.to, n, e, c.want)
		}
	}
	for _, u := range unpaired {
		for _, was := range []uint16{0, 0x1234, 0xffff} {
			if n, e := sum.Update(was, u[0], u[1]); n != 0 || e != api.ErrWords {
				t.Errorf("Update(%04x, %x, %x) = %04x, %d", was, u[0], u[1], n, e)
			}
		}
	}
}

// turnedBytes are the bytes of the words with each bit turned.
func turnedBytes(row []byte) []byte {
	out := make([]byte, len(row))
	for i, b := range row {
		out[i] = ^b
	}
	return out
}

func TestUpdateAndNeutralByTheirWords(t *testing.T) {
	r := seeded()
	for range 3000 {
		n := 2 * r.IntN(8)
		from, to := someBytes(r, n), someBytes(r, n)
		was := someBytes(r, 2)
		want := ^plainSum(turnedBytes(was), turnedBytes(from), to)
		if n, e := sum.Update(plainSum(was), from, to); n != want || e != api.OK {
			t.Fatalf("Update(%x, %x, %x) = %04x, %d, want %04x", was, from, to, n, e, want)
		}
		want = plainSum(from, turnedBytes(to))
		if n, e := sum.Neutral(from, to); n != want || e != api.OK {
			t.Fatalf("Neutral(%x, %x) = %04x, %d, want %04x", from, to, n, e, want)
		}
	}
}

func TestAlike(t *testing.T) {
	edges := []uint16{0, 1, 2, 0x00ff, 0x7fff, 0x8000, 0xff00, 0xfffe, 0xffff}
	for _, a := range edges {
		for n := range 1 << 16 {
			b := uint16(n)
			want := a == b || int(a)+int(b) == 65535 && int(a)*int(b) == 0
			if sum.Alike(a, b) != want || sum.Alike(b, a) != want {
				t.Fatalf("Alike(%04x, %04x): want %t", a, b, want)
			}
		}
	}
}

func TestNeutral(t *testing.T) {
	cases := []struct {
		from, to []byte
		want     uint16
	}{
		{nil, nil, 0},
		{nil, []byte{}, 0},
		{[]byte{0, 5}, []byte{0, 3}, 2},
		{[]byte{0, 3}, []byte{0, 5}, 0xfffd},
		{[]byte{1, 2}, []byte{1, 2}, 0xffff},
		{[]byte{0, 0}, []byte{0xff, 0xff}, 0},
		{[]byte{0xff, 0xff}, []byte{0, 0}, 0xffff},
		{[]byte{0, 9, 0, 1}, []byte{0, 4, 0, 2}, 4},
	}
	for _, c := range cases {
		if n, e := sum.Neutral(c.from, c.to); n != c.want || e != api.OK {
			t.Errorf("Neutral(%x, %x) = %04x, %d, want %04x", c.from, c.to, n, e, c.want)
		}
	}
	for _, u := range unpaired {
		if n, e := sum.Neutral(u[0], u[1]); n != 0 || e != api.ErrWords {
			t.Errorf("Neutral(%x, %x) = %04x, %d", u[0], u[1], n, e)
		}
	}
}

// P1.5

func TestRightBehindAChange(t *testing.T) {
	r := seeded()
	for range 3000 {
		row := someBytes(r, 2+r.IntN(30))
		at := 2 * r.IntN(len(row)/2+1)
		n := 2 * r.IntN((len(row)-at)/2+1)
		to := someBytes(r, n)
		now := slices.Concat(row[:at], to, row[at+n:])
		got, e := sum.Update(sum.Of(row), row[at:at+n], to)
		if e != api.OK || !sum.Alike(got, sum.Of(now)) {
			t.Fatalf("%x to %x: Update = %04x, %d, checksum %04x", row, now, got, e, sum.Of(now))
		}
	}
}

// P1.6

func TestNeutralKeepsTheChecksum(t *testing.T) {
	r := seeded()
	for range 3000 {
		head, mid, tail := someBytes(r, 2*r.IntN(5)), someBytes(r, 2*r.IntN(5)), someBytes(r, r.IntN(8))
		n := 2 * r.IntN(6)
		from, to := someBytes(r, n), someBytes(r, n)
		w, e := sum.Neutral(from, to)
		if e != api.OK {
			t.Fatalf("Neutral(%x, %x): %d", from, to, e)
		}
		word := []byte{byte(w >> 8), byte(w)}
		was := sum.Of(head, []byte{0, 0}, mid, from, tail)
		if now := sum.Of(head, word, mid, to, tail); !sum.Alike(was, now) {
			t.Fatalf("word ahead of %x to %x: %04x, %04x", from, to, was, now)
		}
		was = sum.Of(head, from, mid, []byte{0, 0}, tail)
		if now := sum.Of(head, to, mid, word, tail); !sum.Alike(was, now) {
			t.Fatalf("word behind %x to %x: %04x, %04x", from, to, was, now)
		}
	}
}

// P1.7

func TestOrder(t *testing.T) {
	r := seeded()
	for range 2000 {
		even := make([][]byte, 1+r.IntN(5))
		for i := range even {
			even[i] = someBytes(r, 2*r.IntN(6))
		}
		last := someBytes(r, r.IntN(7))
		want := sum.Fold(append(slices.Clone(even), last)...)
		r.Shuffle(len(even), func(i, j int) { even[i], even[j] = even[j], even[i] })
		if got := sum.Fold(append(even, last)...); got != want {
			t.Fatalf("%x then %x: %04x, want %04x", even, last, got, want)
		}
	}
}

// P1.8

func TestOneWordShows(t *testing.T) {
	r := seeded()
	for _, from := range []uint16{0, 1, 0x00ff, 0x1234, 0x8000, 0xfffe, 0xffff} {
		row := someBytes(r, 2+r.IntN(9))
		at := 2 * r.IntN(len(row)/2)
		putWord(row, at, from)
		was := sum.Of(row)
		for n := range 1 << 16 {
			to := uint16(n)
			if sum.Alike(from, to) {
				continue
			}
			putWord(row, at, to)
			if sum.Alike(was, sum.Of(row)) {
				t.Fatalf("%x: word %04x to %04x at %d: the checksum stays %04x", row, from, to, at, was)
			}
		}
	}
}

// Rule 4

// What is handed in has room behind it, so that one who appends is seen too.
func TestArgumentsStay(t *testing.T) {
	store := []byte{1, 2, 3, 0xaa, 4, 5, 6, 7, 0xbb, 0xcc}
	was := bytes.Clone(store)
	odd, from, to := store[0:3], store[0:2], store[4:6]
	parts := [][]byte{odd, store[4:8], nil}
	sum.Fold(parts...)
	sum.Of(parts...)
	sum.Good(parts...)
	sum.Update(7, from, to)
	sum.Neutral(from, to)
	sum.Update(7, odd, to)
	sum.Neutral(odd, to)
	if !bytes.Equal(store, was) {
		t.Errorf("bytes became %x, were %x", store, was)
	}
	if len(parts) != 3 || len(parts[0]) != 3 || len(parts[1]) != 4 || parts[2] != nil {
		t.Errorf("parts became %x", parts)
	}
}

// Nothing is kept: an argument that its owner changes, or other calls between, change no later answer.
func TestNothingIsKept(t *testing.T) {
	row := []byte{1, 2, 3}
	was := sum.Of(row)
	row[0] = 9
	if n := sum.Of(row); n != ^plainSum(row) {
		t.Errorf("Of(%x) = %04x", row, n)
	}
	row[0] = 1
	if n := sum.Of(row); n != was {
		t.Errorf("Of(%x) = %04x, was %04x", row, n, was)
	}
}

func TestAnswersAreNewMemory(t *testing.T) {
	src4, dst4 := api.Addr4{1, 2, 3, 4}, api.Addr4{5, 6, 7, 8}
	a, _ := sum.Pseudo4(src4, dst4, 6, 20)
	b, _ := sum.Pseudo4(src4, dst4, 6, 20)
	src6, dst6 := api.Addr6{1, 2}, api.Addr6{3, 4}
	c, _ := sum.Pseudo6(src6, dst6, 6, 20)
	d, _ := sum.Pseudo6(src6, dst6, 6, 20)
	was4, was6 := bytes.Clone(b), bytes.Clone(d)
	for _, row := range [][]byte{a, c} {
		row = row[:cap(row)]
		for i := range row {
			row[i] = 0xee
		}
	}
	if !bytes.Equal(b, was4) || !bytes.Equal(d, was6) {
		t.Errorf("other answers became %x, %x", b, d)
	}
	if src4 != (api.Addr4{1, 2, 3, 4}) || src6 != (api.Addr6{1, 2}) || dst4 != (api.Addr4{5, 6, 7, 8}) || dst6 != (api.Addr6{3, 4}) {
		t.Error("arguments changed")
	}
	if e, err := sum.Pseudo4(src4, dst4, 6, 20); err != api.OK || !bytes.Equal(e, was4) {
		t.Errorf("a later answer: %x, %d", e, err)
	}
}

package field_test

import (
	"bytes"
	"strings"
	"testing"
	"unicode/utf8"

	"ferryman/api"
	"ferryman/field"
)

// P3.4, P3.5: every place and number of bits, more than 64 among them, there and back.
func TestText(t *testing.T) {
	r := dice()
	for _, size := range []int{0, 1, 2, 3, 9, 11} {
		b := someBytes(r, size)
		all := row(b)
		for at := range 8*size + 1 {
			for n := range 8*size - at + 1 {
				s, e := field.Text(b, at, n)
				if s != all[at:at+n] || e != api.OK {
					t.Fatalf("Text(%x, %d, %d) = %q, %d", b, at, n, s, e)
				}
				testRead(t, s)
			}
		}
		if all != row(b) {
			t.Fatalf("Text changed %s to %x", all, b)
		}
	}
	if s, e := field.Text(nil, 0, 0); s != "" || e != api.OK {
		t.Errorf("Text of nothing: %q, %d", s, e)
	}
	if s, e := field.Text([]byte{0xa0}, 0, 3); s != "101" || e != api.OK {
		t.Errorf("Text(a0, 0, 3): %q, %d", s, e)
	}
	long := make([]byte, api.MaxBitsCat/8+1)
	if s, e := field.Text(long, 0, 8*len(long)); s != strings.Repeat("0", 8*len(long)) || e != api.OK {
		t.Errorf("Text of more than MaxBitsCat bits: %d letters, %d", len(s), e)
	}
}

// testRead asks for the bits of letters that are 0 and 1 alone.
func testRead(t *testing.T, s string) {
	t.Helper()
	b, n, at, e := field.Read(s)
	if !bytes.Equal(b, packed(s)) || n != len(s) || at != 0 || e != api.OK {
		t.Fatalf("Read(%q) = %x, %d, %d, %d", s, b, n, at, e)
	}
	if again, e := field.Text(b, 0, n); again != s || e != api.OK {
		t.Fatalf("Text of Read(%q) = %q, %d", s, again, e)
	}
}

// testNot asks for the place of the first letter that is neither 0 nor 1.
func testNot(t *testing.T, s string, place int) {
	t.Helper()
	if b, n, at, e := field.Read(s); b != nil || n != 0 || at != place || e != api.ErrRune {
		t.Errorf("Read(%q) = %x, %d, %d, %d; it is none at %d", s, b, n, at, e, place)
	}
}

// P3.4: a letter that is neither, of one byte and of more, and bytes that are no UTF-8, at every place.
func TestReadNot(t *testing.T) {
	none := []string{"x", "2", "/", " ", "\x00", "\n", "é", "１", "٠", "\ufffd", "𝟎", "\u0130", "\u0131", "\xff", "\x80", "\xb0", "\xc3", "\xe2\x82", "\xed\xa0\x80", "\xc0\xb0", "\xf4\x90\x80\x80"}
	for _, x := range none {
		for place := range 20 {
			ahead := strings.Repeat("10", 10)[:place]
			testNot(t, ahead+x, place)
			testNot(t, ahead+x+"01", place)
			testNot(t, ahead+x+"é\xff", place)
		}
	}
	for x := range 256 {
		s := "0" + string([]byte{byte(x)}) + "1"
		if x == '0' || x == '1' {
			testRead(t, s)
		} else {
			testNot(t, s, 1)
		}
	}
}

// P3.4: a random text, of which mostly one letter is another one.
func TestReadRandom(t *testing.T) {
	r := dice()
	others := []string{"x", "é", "€", "𝟎", "\xff", "\xe2"}
	for range 2000 {
		var s strings.Builder
		first := -1
		for range r.IntN(80) {
			if r.IntN(40) > 0 {
				s.WriteByte("01"[r.IntN(2)])
				continue
			}
			if first < 0 {
				first = s.Len()
			}
			s.WriteString(others[r.IntN(len(others))])
		}
		if first < 0 {
			testRead(t, s.String())
		} else {
			testNot(t, s.String(), first)
		}
	}
}

// P3.4: just MaxBitsCat runes, of whatever bytes, and one more.
func TestReadLong(t *testing.T) {
	testRead(t, "")
	just := strings.Repeat("10", api.MaxBitsCat/2)
	testRead(t, just)
	testRead(t, just[1:])
	for _, x := range []string{"0", "1", "x", "é", "𝟎", "\xff"} {
		testLong(t, just+x)
		testLong(t, x+just)
		testLong(t, just+x+x)
	}
	for _, x := range []string{"x", "é", "𝟎", "\xff"} {
		testNot(t, just[1:]+x, api.MaxBitsCat-1)
		testNot(t, x+just[1:], 0)
	}
	for _, x := range []string{"é", "€", "𝟎", "\xff", "\xe2"} {
		s := strings.Repeat(x, api.MaxBitsCat)
		if utf8.RuneCountInString(s) != api.MaxBitsCat {
			t.Fatalf("%q is not one rune", x)
		}
		testNot(t, s, 0)
		testLong(t, s+"0")
		testLong(t, "0"+s)
	}
}

// testLong asks for the answer to a text of too many runes.
func testLong(t *testing.T, s string) {
	t.Helper()
	if b, n, at, e := field.Read(s); b != nil || n != 0 || at != 0 || e != api.ErrLong {
		t.Errorf("Read of %d bytes, too many runes: %x, %d, %d, %d", len(s), b, n, at, e)
	}
}

// Rule 4: two answers share nothing.
func TestReadTwice(t *testing.T) {
	x, _, _, _ := field.Read("10101010")
	x[0] = 0
	testRead(t, "10101010")
}

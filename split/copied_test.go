package split_test

import (
	"bytes"
	"testing"

	"ferryman/split"
)

// testCopied holds Copied against what is wanted, and against the plain way.
func testCopied(t *testing.T, options, want []byte) {
	t.Helper()
	if plain := plainCopied(options); !bytes.Equal(plain, want) {
		t.Fatalf("% x: the plain way tells % x, want % x", options, plain, want)
	}
	holdCopied(t, options)
}

func holdCopied(t *testing.T, options []byte) {
	t.Helper()
	if b, want := split.Copied(options), plainCopied(options); !bytes.Equal(b, want) {
		t.Fatalf("% x: % x; want % x", options[:min(len(options), 100)], b[:min(len(b), 100)], want[:min(len(want), 100)])
	}
}

// P13.1: the chapter's example, and the edges of options.
func TestCopied(t *testing.T) {
	for _, c := range []struct{ options, want []byte }{
		{[]byte{0x94, 4, 0, 0, 7, 3, 4}, []byte{0x94, 4, 0, 0}},
		{nil, nil},
		{[]byte{}, nil},
		{[]byte{0}, nil},
		{[]byte{1}, nil},
		{[]byte{1, 1, 1, 1, 1}, nil},
		{[]byte{0, 0x94, 4, 5, 6}, nil}, // all behind a byte 0 is nothing
		{[]byte{0x88, 2, 0, 0x88, 2}, []byte{0x88, 2, 0, 0}}, // what stands ahead of it counts
		{[]byte{1, 0x88, 2, 1, 1}, []byte{0x88, 2, 0, 0}},    // a byte 1 is passed over, and not copied
		{[]byte{1, 2, 0x88, 2}, nil},                         // behind a byte 1 stands no length: the type 2 has the length 136
		{[]byte{0x88}, nil},                                  // no length behind the type
		{[]byte{7}, nil},
		{[]byte{0x94, 4, 5, 6, 0x88}, []byte{0x94, 4, 5, 6}},          // they end there
		{[]byte{0x88, 0, 0x94, 4, 5, 6}, nil},                         // a length of 0
		{[]byte{0x88, 1, 0x94, 4, 5, 6}, nil},                         // of 1
		{[]byte{0x88, 2}, []byte{0x88, 2, 0, 0}},                      // of 2
		{[]byte{0x88, 5, 7, 8, 9}, []byte{0x88, 5, 7, 8, 9, 0, 0, 0}}, // just what is left
		{[]byte{0x88, 6, 7, 8, 9}, nil},                               // one more
		{[]byte{0x88, 255, 7, 8, 9}, nil},
		{[]byte{7, 0, 0x94, 4, 5, 6}, nil}, // they end at one that is not copied too
		{[]byte{7, 1, 0x94, 4, 5, 6}, nil},
		{[]byte{7, 9, 0x94, 4, 5, 6}, nil},
		{[]byte{7, 2, 0x94, 4, 5, 6}, []byte{0x94, 4, 5, 6}},
		{[]byte{127, 4, 5, 6}, nil},
		{[]byte{128, 4, 5, 6}, []byte{128, 4, 5, 6}},
		{[]byte{255, 4, 5, 6}, []byte{255, 4, 5, 6}},
		{[]byte{0x88, 4, 0, 0, 0x89, 3, 1}, []byte{0x88, 4, 0, 0, 0x89, 3, 1, 0}},    // a 0 or 1 within an option is none
		{[]byte{0x89, 3, 1, 7, 3, 9, 0x88, 2}, []byte{0x89, 3, 1, 0x88, 2, 0, 0, 0}}, // in order, and filled at the end alone
	} {
		testCopied(t, c.options, c.want)
	}
}

// P13.1: every type with every length, where there are so many bytes left.
func TestCopiedTypesAndLengths(t *testing.T) {
	for kind := range 256 {
		for n := range 256 {
			for _, left := range []int{2, 3, n - 1, n, n + 1, n + 3, 40, 300} {
				if left < 2 {
					continue
				}
				options := append([]byte{byte(kind), byte(n)}, bytes.Repeat([]byte{0x82, 4, 1, 0}, 80)[:left-2]...)
				holdCopied(t, options)
				if kind >= 128 && n >= 2 && n <= left {
					if b := split.Copied(options); len(b) < n || !bytes.Equal(b[:n], options[:n]) {
						t.Fatalf("% x: % x", options, b)
					}
				}
			}
		}
	}
}

// P13.1: what is copied is filled by bytes 0 up to a multiple of 4.
func TestCopiedIsFilled(t *testing.T) {
	for n := 2; n <= 255; n++ {
		options := append([]byte{200, byte(n)}, bytes.Repeat([]byte{7}, n-2)...)
		want := append([]byte{}, options...)
		for len(want)%4 > 0 {
			want = append(want, 0)
		}
		testCopied(t, options, want)
		testCopied(t, append([]byte{1}, options...), want)
		testCopied(t, append(options, 1, 1, 0, 200, 2), want)
	}
}

// P13.1: all bytes of some that matter, up to six of them.
func TestCopiedOfAll(t *testing.T) {
	letters := []byte{0, 1, 2, 3, 127, 128, 255}
	var all func(b []byte)
	all = func(b []byte) {
		holdCopied(t, b)
		if len(b) == 6 {
			return
		}
		for _, x := range letters {
			all(append(b[:len(b):len(b)], x))
		}
	}
	all(nil)
}

// P13.1: random bytes, many more than 40 among them. What is copied of what is copied is the same.
func TestCopiedOfRandom(t *testing.T) {
	r := dice()
	for i := range 20000 {
		options := someOptions(r, r.IntN(60))
		if i%4 == 0 {
			options = someBytes(r, r.IntN(60))
		}
		holdCopied(t, options)
		b := split.Copied(options)
		if c := split.Copied(b); !bytes.Equal(b, c) || len(b)%4 != 0 {
			t.Fatalf("% x: % x, and again % x", options, b, c)
		}
	}
	long := bytes.Repeat([]byte{0x82, 3, 0, 1, 7, 2}, 40000)
	for _, n := range []int{41, 44, 255, 256, 65535, 65536, 65541, len(long)} {
		holdCopied(t, long[:n])
		holdCopied(t, bytes.Repeat([]byte{1}, n))
		holdCopied(t, append(bytes.Repeat([]byte{1}, n), 0x88, 3, 9))
	}
	if b := split.Copied(long); len(b) != 120000 {
		t.Errorf("%d bytes", len(b))
	}
}

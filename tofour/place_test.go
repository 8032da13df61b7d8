package tofour_test

import (
	"testing"

	"ferryman/api"
	"ferryman/tofour"
)

// P18.2 to P18.4: the errors and limits have the numbers that the chapter names.
func TestNumbers(t *testing.T) {
	got := [...]int{int(api.ErrLong), int(api.ErrRoute), int(api.ErrNoSide), int(api.ErrZero), int(api.ErrBody), int(api.ErrFrag), int(api.ErrIcmp), int(api.ErrInner), api.MaxPacket, api.LeastMTU4}
	if want := [...]int{2, 170, 171, 172, 173, 174, 175, 176, 65535, 68}; got != want {
		t.Errorf("%d", got)
	}
}

// wantPointer holds Pointer against an answer.
func wantPointer(t *testing.T, n uint32, at uint8, is bool) {
	t.Helper()
	if got, known := tofour.Pointer(n); got != at || known != is {
		t.Errorf("Pointer(%d) = %d, %t; want %d, %t", n, got, known, at, is)
	}
}

// P18.1: each place in an IPv6 header, and those behind it.
func TestPointer(t *testing.T) {
	for n := range uint32(70000) {
		switch {
		case n == 0 || n == 1:
			wantPointer(t, n, uint8(n), true)
		case n == 4 || n == 5:
			wantPointer(t, n, 2, true)
		case n == 6:
			wantPointer(t, n, 9, true)
		case n == 7:
			wantPointer(t, n, 8, true)
		case 8 <= n && n <= 23:
			wantPointer(t, n, 12, true)
		case 24 <= n && n <= 39:
			wantPointer(t, n, 16, true)
		default:
			wantPointer(t, n, 0, false)
		}
	}
}

// P18.1: places of more than 8 bits, whose lower ones are those of a place that is known.
func TestPointerWide(t *testing.T) {
	for bit := 6; bit < 32; bit++ {
		for low := range uint32(50) {
			wantPointer(t, 1<<bit|low, 0, false)
		}
	}
	wantPointer(t, 1<<32-1, 0, false)
	wantPointer(t, 1<<31, 0, false)
}

// P18.1: the MTUs at the edges.
func TestMTU(t *testing.T) {
	for n, want := range map[uint32]uint16{
		0: 68, 1: 68, 19: 68, 20: 68, 21: 68, 68: 68, 87: 68, 88: 68, 89: 69, 90: 70, 1280: 1260, 1300: 1280, 1500: 1480,
		65534: 65514, 65535: 65515, 65536: 65516, 65554: 65534, 65555: 65535, 65556: 65535, 65557: 65535, 70000: 65535,
		131072: 65535, 131160: 65535, 1<<31 - 1: 65535, 1 << 31: 65535, 1<<32 - 21: 65535, 1<<32 - 1: 65535,
	} {
		if got := tofour.MTU(n); got != want {
			t.Errorf("MTU(%d) = %d, want %d", n, got, want)
		}
	}
}

// P18.1: each MTU up to beyond the greatest that is told.
func TestEachMTU(t *testing.T) {
	for n := range uint32(200000) {
		if got := tofour.MTU(n); int(got) != plainMTU(int(n)) {
			t.Fatalf("MTU(%d) = %d, want %d", n, got, plainMTU(int(n)))
		}
	}
}

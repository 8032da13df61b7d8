package tosix_test

import (
	"testing"

	"ferryman/api"
	"ferryman/tosix"
)

// P17.2 to P17.4: the errors and limits have the numbers that the chapter names.
func TestNumbers(t *testing.T) {
	got := [...]int{int(api.ErrLong), int(api.ErrRoute), int(api.ErrNoSide), int(api.ErrZero), int(api.ErrBody), int(api.ErrFrag), int(api.ErrIcmp), int(api.ErrInner), api.MaxPacket, api.LeastMTU6}
	if want := [...]int{2, 170, 171, 172, 173, 174, 175, 176, 65535, 1280}; got != want {
		t.Errorf("%d", got)
	}
}

// P17.1: each place there is.
func TestPointer(t *testing.T) {
	want := map[uint8]uint32{0: 0, 1: 1, 2: 4, 3: 4, 8: 7, 9: 6, 12: 8, 13: 8, 14: 8, 15: 8, 16: 24, 17: 24, 18: 24, 19: 24}
	for n := range 256 {
		at, known := want[uint8(n)]
		if got, is := tosix.Pointer(uint8(n)); got != at || is != known {
			t.Errorf("Pointer(%d) = %d, %t; want %d, %t", n, got, is, at, known)
		}
	}
}

// P17.1: the MTUs at the edges, and each MTU there is.
func TestMTU(t *testing.T) {
	for n, want := range map[uint16]uint32{
		0: 1280, 1: 1280, 19: 1280, 20: 1280, 68: 1280, 1240: 1280, 1259: 1280, 1260: 1280, 1261: 1281, 1280: 1300, 1400: 1420, 1500: 1520,
		65514: 65534, 65515: 65535, 65516: 65536, 65517: 65537, 65534: 65554, 65535: 65555,
	} {
		if got := tosix.MTU(n); got != want {
			t.Errorf("MTU(%d) = %d, want %d", n, got, want)
		}
	}
	for n := range 65536 {
		if got := tosix.MTU(uint16(n)); int(got) != plainMTU(n) {
			t.Fatalf("MTU(%d) = %d, want %d", n, got, plainMTU(n))
		}
	}
}

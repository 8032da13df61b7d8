package split_test

import (
	"fmt"
	"reflect"
	"strings"
	"testing"

	"ferryman/api"
	"ferryman/split"
)

// show tells a datagram for a failing test, without its bytes.
func show(v api.V4) string {
	options := fmt.Sprintf("% x", v.Options[:min(len(v.Options), 60)])
	return fmt.Sprintf("DF %t, MF %t, Off %d, Options (%d) %s, Body %d", v.DF, v.MF, v.Off, len(v.Options), options, len(v.Body))
}

// shape tells fragments in short: Off, bytes of Options and Body, and a plus where MF is set.
func shape(l []api.V4) string {
	var s []string
	for _, f := range l[:min(len(l), 40)] {
		more := ""
		if f.MF {
			more = "+"
		}
		s = append(s, fmt.Sprintf("%d:%d:%d%s", f.Off, len(f.Options), len(f.Body), more))
	}
	return strings.Join(s, " ")
}

// testShape holds the fragments of a datagram against a shape, and against the plain way.
func testShape(t *testing.T, v api.V4, mtu int, want string) {
	t.Helper()
	if l, e := hold(t, v, mtu); e != api.OK || shape(l) != want {
		t.Errorf("%s, MTU %d: %s, %d; want %s", show(v), mtu, shape(l), e, want)
	}
}

// testError holds Split and Count against an error.
func testError(t *testing.T, v api.V4, mtu int, want api.Errno) {
	t.Helper()
	hold(t, v, mtu)
	if l, e := split.Split(v, mtu); l != nil || e != want {
		t.Errorf("%s, MTU %d: Split = %s, %d; want %d", show(v), mtu, shape(l), e, want)
	}
	if n, e := split.Count(v, mtu); n != 0 || e != want {
		t.Errorf("%s, MTU %d: Count = %d, %d; want %d", show(v), mtu, n, e, want)
	}
}

// P13.2: the errors and limits have the numbers that the chapter names.
func TestNumbers(t *testing.T) {
	got := []int{int(api.ErrDF), int(api.ErrMTU), int(api.ErrArg), int(api.ErrRange), int(api.ErrV4), int(api.ErrLong), api.LeastMTU4, api.MaxPacket}
	if want := []int{130, 131, 1, 5, 45, 2, 68, 65535}; !reflect.DeepEqual(got, want) {
		t.Errorf("%d", got)
	}
}

// P13.2: the chapter's example.
func TestExample(t *testing.T) {
	r := dice()
	testShape(t, api.V4{Body: someBytes(r, 20)}, 68, "0:0:20")
	testShape(t, api.V4{Body: someBytes(r, 60)}, 68, "0:0:48+ 6:0:12")
}

// P13.2: MTUs at their limits and beyond, of a datagram that fits and of one that does not.
func TestMTUs(t *testing.T) {
	r := dice()
	small, long := api.V4{Body: someBytes(r, 48)}, api.V4{Body: someBytes(r, 49)}
	testShape(t, small, 68, "0:0:48")
	testShape(t, small, 69, "0:0:48")
	testShape(t, small, 65535, "0:0:48")
	testShape(t, long, 68, "0:0:48+ 6:0:1")
	testShape(t, long, 69, "0:0:49")
	testShape(t, long, 65535, "0:0:49")
	for _, mtu := range farMTUs {
		for _, v := range []api.V4{small, long, {}, {DF: true, Body: someBytes(r, 65000)}, {MF: true, Body: someBytes(r, 1501)}, {Off: 8191, Body: someBytes(r, 1500)}} {
			testError(t, v, mtu, api.ErrMTU)
			if fits, e := split.Fits(v, mtu); fits || e != api.ErrMTU {
				t.Errorf("%s, MTU %d: Fits = %t, %d", show(v), mtu, fits, e)
			}
		}
	}
}

// P13.2: a datagram that may not be: its error is told first, whatever the MTU is.
func TestCheckIsFirst(t *testing.T) {
	r := dice()
	mtus := append([]int{68, 1500, 65535}, farMTUs...)
	for _, c := range []struct {
		v    api.V4
		want api.Errno
	}{
		{api.V4{Off: -1}, api.ErrV4},
		{api.V4{Off: 8192}, api.ErrV4},
		{api.V4{Off: -1 << 62, DF: true, MF: true, Body: someBytes(r, 1501)}, api.ErrV4},
		{api.V4{Options: make([]byte, 3)}, api.ErrV4},
		{api.V4{Options: make([]byte, 44)}, api.ErrV4},
		{api.V4{Options: make([]byte, 65536), Body: make([]byte, 65536)}, api.ErrV4},
		{api.V4{Body: make([]byte, 65516)}, api.ErrLong},
		{api.V4{Body: make([]byte, 65535)}, api.ErrLong},
		{api.V4{DF: true, MF: true, Body: make([]byte, 1<<20)}, api.ErrLong},
		{api.V4{Options: make([]byte, 40), Body: make([]byte, 65476)}, api.ErrLong},
	} {
		for _, mtu := range mtus {
			testError(t, c.v, mtu, c.want)
			if fits, e := split.Fits(c.v, mtu); fits || e != c.want {
				t.Errorf("%s, MTU %d: Fits = %t, %d; want %d", show(c.v), mtu, fits, e, c.want)
			}
		}
	}
}

// P13.2: just mtu bytes fit, one more does not, whatever else the datagram has.
func TestJustFits(t *testing.T) {
	r := dice()
	for _, mtu := range []int{68, 69, 75, 76, 77, 576, 1280, 1499, 1500, 9000, 65534, 65535} {
		for n := 0; n <= 40; n += 4 {
			for _, more := range []int{-8, -1, 0, 1, 2, 8, 9} {
				size := mtu - 20 - n + more
				if size < 0 || 20+n+size > 65535 {
					continue
				}
				v := someV4(r, n, size)
				v.Off, v.MF = 0, false
				if fits, e := split.Fits(v, mtu); fits != (more <= 0) || e != api.OK {
					t.Errorf("%s, MTU %d: Fits = %t, %d", show(v), mtu, fits, e)
				}
				l, e := hold(t, v, mtu)
				if e != api.OK || more <= 0 && (len(l) != 1 || !like(l[0], v)) || more > 0 && len(l) < 2 {
					t.Errorf("%s, MTU %d: %s, %d", show(v), mtu, shape(l), e)
				}
				v.DF, v.MF, v.Off = true, true, 8191
				if fits, e := split.Fits(v, mtu); fits != (more <= 0) || e != api.OK {
					t.Errorf("%s, MTU %d: Fits = %t, %d", show(v), mtu, fits, e)
				}
			}
		}
	}
}

// P13.2: DF matters only where the datagram does not fit.
func TestDF(t *testing.T) {
	r := dice()
	for _, mtu := range []int{68, 100, 1500, 65534} {
		v := someV4(r, 0, mtu-20)
		v.DF = true
		l, e := hold(t, v, mtu)
		if e != api.OK || len(l) != 1 || !like(l[0], v) {
			t.Errorf("%s, MTU %d: %s, %d", show(v), mtu, shape(l), e)
		}
		v.Body = append(v.Body, 1)
		testError(t, v, mtu, api.ErrDF)
	}
	testShape(t, api.V4{DF: true, Body: make([]byte, 65515)}, 65535, "0:0:65515")
}

// P13.2: which error is told first: ErrMTU, then ErrDF, ErrArg, ErrRange; none of the last three where it fits.
func TestErrorsInOrder(t *testing.T) {
	r := dice()
	for bits := range 8 {
		v := api.V4{DF: bits&1 != 0, Body: someBytes(r, 104)}
		want := api.OK
		if bits&4 != 0 {
			v.Off, want = 8191, api.ErrRange
		}
		if bits&2 != 0 {
			v.MF, v.Body, want = true, someBytes(r, 105), api.ErrArg
		}
		if v.DF {
			want = api.ErrDF
		}
		if want != api.OK {
			testError(t, v, 68, want)
			testError(t, v, 123, want)
		}
		testError(t, v, 67, api.ErrMTU)
		testError(t, v, 65536, api.ErrMTU)
		for _, mtu := range []int{125, 65535} {
			l, e := hold(t, v, mtu)
			if e != api.OK || len(l) != 1 || !like(l[0], v) {
				t.Errorf("%s, MTU %d: %s, %d", show(v), mtu, shape(l), e)
			}
		}
	}
}

// P13.2: with MF the Body is a multiple of 8; without it it may be any.
func TestMoreAndEights(t *testing.T) {
	r := dice()
	for size := 49; size < 130; size++ {
		v := api.V4{MF: true, Off: 7, Body: someBytes(r, size)}
		if size%8 != 0 {
			testError(t, v, 68, api.ErrArg)
		} else if l, e := hold(t, v, 68); e != api.OK || !l[len(l)-1].MF {
			t.Errorf("%s: %s, %d", show(v), shape(l), e)
		}
		v.MF = false
		if l, e := hold(t, v, 68); e != api.OK || l[len(l)-1].MF {
			t.Errorf("%s: %s, %d", show(v), shape(l), e)
		}
	}
}

// P13.2: a datagram that is a fragment itself: Off goes on from its own, and the last one keeps its MF.
func TestFragmentItself(t *testing.T) {
	r := dice()
	testShape(t, api.V4{MF: true, Body: someBytes(r, 104)}, 68, "0:0:48+ 6:0:48+ 12:0:8+")
	testShape(t, api.V4{MF: true, Off: 100, Body: someBytes(r, 104)}, 68, "100:0:48+ 106:0:48+ 112:0:8+")
	testShape(t, api.V4{Off: 100, Body: someBytes(r, 104)}, 68, "100:0:48+ 106:0:48+ 112:0:8")
	testShape(t, api.V4{Off: 1, Body: someBytes(r, 97)}, 68, "1:0:48+ 7:0:48+ 13:0:1")
	testShape(t, api.V4{MF: true, Off: 3, Body: someBytes(r, 5)}, 68, "3:0:5+")
	// All Options stand in the first one, though the datagram is not the first fragment.
	testShape(t, api.V4{Off: 2, Options: []byte{7, 3, 4, 0}, Body: someBytes(r, 60)}, 68, "2:4:40+ 7:0:20")
}

// P13.2: the last Off comes to 8191, and to 8192.
func TestOffAtItsLimit(t *testing.T) {
	r := dice()
	testShape(t, api.V4{Off: 8185, Body: someBytes(r, 49)}, 68, "8185:0:48+ 8191:0:1")
	testError(t, api.V4{Off: 8186, Body: someBytes(r, 49)}, 68, api.ErrRange)
	testShape(t, api.V4{Off: 8179, MF: true, Body: someBytes(r, 104)}, 68, "8179:0:48+ 8185:0:48+ 8191:0:8+")
	testError(t, api.V4{Off: 8180, MF: true, Body: someBytes(r, 104)}, 68, api.ErrRange)
	testShape(t, api.V4{Off: 8191, Body: someBytes(r, 48)}, 68, "8191:0:48")
	testError(t, api.V4{Off: 8191, Body: someBytes(r, 49)}, 68, api.ErrRange)
	// What counts is where the last one begins: it may end far beyond.
	testShape(t, api.V4{Off: 8191 - 185, Body: someBytes(r, 1480+1480)}, 1500, "8006:0:1480+ 8191:0:1480")
	testError(t, api.V4{Off: 8191 - 185, Body: someBytes(r, 1480+1481)}, 1500, api.ErrRange)
	testError(t, api.V4{Off: 8191, Body: someBytes(r, 65515)}, 65534, api.ErrRange)
	testError(t, api.V4{Off: 8191, Body: someBytes(r, 65515)}, 68, api.ErrRange)
	for off := 8100; off <= 8191; off++ {
		for size := 0; size < 400; size += 1 + size%7 {
			v := someV4(r, 4*r.IntN(11), size)
			v.Off, v.MF = off, false
			hold(t, v, 68+r.IntN(40))
		}
	}
}

// P13.2: Options that are copied whole, in part and not at all: the first one has all, and later ones have the more room the less is copied.
func TestOptions(t *testing.T) {
	r := dice()
	whole := []byte{0x94, 4, 0, 0, 0x88, 4, 9, 9}
	part := []byte{0x94, 4, 0, 0, 7, 3, 4, 0}
	none := []byte{7, 7, 4, 0, 0, 0, 0, 0}
	body := someBytes(r, 150)
	testShape(t, api.V4{Options: whole, Body: body}, 68, "0:8:40+ 5:8:40+ 10:8:40+ 15:8:30")
	testShape(t, api.V4{Options: part, Body: body}, 68, "0:8:40+ 5:4:40+ 10:4:40+ 15:4:30")
	testShape(t, api.V4{Options: none, Body: body}, 68, "0:8:40+ 5:0:48+ 11:0:48+ 17:0:14")
	testShape(t, api.V4{Options: make([]byte, 40), Body: body}, 68, "0:40:8+ 1:0:48+ 7:0:48+ 13:0:46")
	// What is too much for the first one by a byte may fit the second by its greater room alone.
	testShape(t, api.V4{Options: make([]byte, 40), Body: body[:9]}, 68, "0:40:8+ 1:0:1")
	testShape(t, api.V4{Options: make([]byte, 40), Body: body[:56]}, 68, "0:40:8+ 1:0:48")
	testShape(t, api.V4{Options: make([]byte, 40), Body: body[:57]}, 68, "0:40:8+ 1:0:48+ 7:0:1")
	l, _ := split.Split(api.V4{Options: part, Body: body}, 68)
	for i, f := range l {
		want := []byte{0x94, 4, 0, 0}
		if i == 0 {
			want = part
		}
		if string(f.Options) != string(want) {
			t.Errorf("fragment %d: % x", i, f.Options)
		}
	}
}

// P13.2: the least room there is: 8 bytes a fragment.
func TestLeastRoom(t *testing.T) {
	r := dice()
	kept := append([]byte{0x83, 40}, someBytes(r, 38)...)
	for mtu := 68; mtu < 76; mtu++ {
		v := api.V4{Options: kept, Body: someBytes(r, 101)}
		l, e := hold(t, v, mtu)
		for i, f := range l {
			if i < len(l)-1 && len(f.Body) != 8 || len(f.Options) != 40 {
				t.Errorf("MTU %d: %s, %d", mtu, shape(l), e)
			}
		}
	}
	testShape(t, api.V4{Options: kept, Body: someBytes(r, 24)}, 68, "0:40:8+ 1:40:8+ 2:40:8")
	testShape(t, api.V4{Options: kept, Body: someBytes(r, 31)}, 75, "0:40:8+ 1:40:8+ 2:40:15")
	testShape(t, api.V4{Options: kept, Body: someBytes(r, 32)}, 75, "0:40:8+ 1:40:8+ 2:40:8+ 3:40:8")
	testShape(t, api.V4{Options: kept, Body: someBytes(r, 32)}, 76, "0:40:16+ 2:40:16")
	// As many fragments as there may be, and the longest datagram in them.
	if l, e := hold(t, api.V4{Options: kept, Body: someBytes(r, 65475)}, 68); len(l) != 8185 || e != api.OK {
		t.Errorf("%d fragments, %d", len(l), e)
	}
	if l, e := hold(t, api.V4{Off: 7, Options: kept, Body: someBytes(r, 65475)}, 68); len(l) != 8185 || l[8184].Off != 8191 || e != api.OK {
		t.Errorf("%d fragments, %d", len(l), e)
	}
	testError(t, api.V4{Off: 8, Options: kept, Body: someBytes(r, 65475)}, 68, api.ErrRange)
}

// P13.2, P13.4: a last part of just a room, one byte less and one more, and what the last one takes beyond the room where the MTU leaves bytes over.
func TestLastPart(t *testing.T) {
	r := dice()
	testShape(t, api.V4{Body: someBytes(r, 95)}, 68, "0:0:48+ 6:0:47")
	testShape(t, api.V4{Body: someBytes(r, 96)}, 68, "0:0:48+ 6:0:48")
	testShape(t, api.V4{Body: someBytes(r, 97)}, 68, "0:0:48+ 6:0:48+ 12:0:1")
	testShape(t, api.V4{Body: someBytes(r, 97)}, 69, "0:0:48+ 6:0:49")
	testShape(t, api.V4{Body: someBytes(r, 98)}, 69, "0:0:48+ 6:0:48+ 12:0:2")
	testShape(t, api.V4{Body: someBytes(r, 103)}, 75, "0:0:48+ 6:0:55")
	testShape(t, api.V4{Body: someBytes(r, 104)}, 75, "0:0:48+ 6:0:48+ 12:0:8")
	testShape(t, api.V4{Body: someBytes(r, 104)}, 76, "0:0:56+ 7:0:48")
	for mtu := 68; mtu <= 100; mtu++ {
		for n := 0; n <= 40; n += 4 {
			for size := 0; size <= 170; size++ {
				v := api.V4{Options: someOptions(r, n), Body: someBytes(r, size), MF: size%16 == 0}
				hold(t, v, mtu)
			}
		}
	}
}

// P13.2: the longest datagrams there are, for the least MTU, for usual ones and for the greatest.
func TestLongest(t *testing.T) {
	r := dice()
	for n := 0; n <= 40; n += 4 {
		for _, mtu := range []int{68, 69, 576, 1280, 1500, 32768, 65526, 65527, 65534, 65535} {
			v := someV4(r, n, 65535-20-n)
			v.Off, v.MF = 0, false
			if _, e := hold(t, v, mtu); e != api.OK {
				t.Errorf("%s, MTU %d: %d", show(v), mtu, e)
			}
		}
	}
	testShape(t, api.V4{Body: someBytes(r, 65515)}, 65535, "0:0:65515")
	testShape(t, api.V4{Body: someBytes(r, 65515)}, 65534, "0:0:65512+ 8189:0:3")
}

// P13.2: each fragment has all the other fields of the datagram.
func TestOtherFields(t *testing.T) {
	r := dice()
	v := api.V4{TOS: 0xb8, ID: 0xbeef, TTL: 1, Proto: 250, Src: api.Addr4{192, 0, 2, 1}, Dst: api.Addr4{198, 51, 100, 7}, Body: someBytes(r, 130)}
	l, e := split.Split(v, 68)
	if len(l) != 3 || e != api.OK {
		t.Fatalf("%s, %d", shape(l), e)
	}
	for i, f := range l {
		want := v
		want.Off, want.MF, want.Body = 6*i, i < 2, v.Body[48*i:min(48*i+48, 130)]
		if !like(f, want) {
			t.Errorf("fragment %d: %+v; want %+v", i, f, want)
		}
	}
	testShape(t, api.V4{}, 68, "0:0:0")
	testShape(t, api.V4{Options: []byte{}, Body: []byte{}}, 68, "0:0:0")
}

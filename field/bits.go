package field

import "ferryman/api"

const mostBits = 64 // that one number holds

// there tells whether n bits from at on are there. Nothing is added to n or at, for both may be as great as an int is.
func there(b []byte, at, n int) bool {
	return at >= 0 && n >= 0 && at <= 8*len(b)-n
}

// wide tells whether a number has more than n bits, 0 to 64.
func wide(v uint64, n int) bool { return v>>n != 0 }

// room is how many bytes n bits begin.
func room(n int) int { return (n + 7) / 8 }

// check tells whether a run may be.
func check(r api.Run) api.Errno {
	if r.N < 0 || r.N > mostBits {
		return api.ErrBits
	}
	if wide(r.V, r.N) {
		return api.ErrArg
	}
	return api.OK
}

// bit is the bit at a place, 0 or 1.
func bit(b []byte, at int) byte { return b[at/8] >> (7 - at%8) & 1 }

// write sets n bits from at on, all of which are there, to the last n ones of v.
func write(b []byte, at, n int, v uint64) {
	for i := range n {
		mask := byte(0x80) >> ((at + i) % 8)
		if v>>(n-1-i)&1 == 1 {
			b[(at+i)/8] |= mask
		} else {
			b[(at+i)/8] &^= mask
		}
	}
}

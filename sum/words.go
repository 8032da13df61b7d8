package sum

import (
	"iter"

	"ferryman/api"
)

// words tells the words of parts as one row: an odd byte at a part's end waits for the byte that follows in a later part.
func words(parts ...[]byte) iter.Seq[uint16] {
	return func(yield func(uint16) bool) {
		var high uint16
		waits := false
		for _, part := range parts {
			for _, b := range part {
				if !waits {
					high, waits = uint16(b)<<8, true
					continue
				}
				waits = false
				if !yield(high | uint16(b)) {
					return
				}
			}
		}
		if waits {
			yield(high)
		}
	}
}

// turned tells each word with each of its bits turned. The words are turned one by one, for the sum of none is 0, and that turned is not.
func turned(row iter.Seq[uint16]) iter.Seq[uint16] {
	return func(yield func(uint16) bool) {
		for w := range row {
			if !yield(^w) {
				return
			}
		}
	}
}

// total is the sum of n and all words of a row.
func total(n uint16, row iter.Seq[uint16]) uint16 {
	for w := range row {
		n = add(n, w)
	}
	return n
}

// add is the sum of two words in ones' complement; one round is enough, for the carry of two words finds room.
func add(a, b uint16) uint16 {
	n := uint32(a) + uint32(b)
	return uint16(n) + uint16(n>>16)
}

// paired tells whether one row of whole words may stand in the place of the other.
func paired(from, to []byte) bool { return len(from) == len(to) && len(from)%2 == 0 }

// fits tells whether a pseudo header may hold a length.
func fits(length int) bool { return length >= 0 && length <= api.MaxPacket }

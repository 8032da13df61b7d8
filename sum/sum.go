// Package sum is layer 1: the Internet's checksum.
package sum

import "ferryman/api"

// Fold is the sum of parts, one behind the other, as 16 bits.
func Fold(parts ...[]byte) uint16 { return total(0, words(parts...)) }

// Of is their checksum.
func Of(parts ...[]byte) uint16 { return ^Fold(parts...) }

// Good tells whether parts that hold their checksum are right.
func Good(parts ...[]byte) bool { return Fold(parts...) == 0xffff }

// Pseudo4 is the pseudo header of IPv4.
func Pseudo4(src, dst api.Addr4, proto uint8, length int) ([]byte, api.Errno) {
	if !fits(length) {
		return nil, api.ErrLong
	}
	head := make([]byte, 0, 12)
	head = append(head, src[:]...)
	head = append(head, dst[:]...)
	head = append(head, 0, proto)
	return append(head, byte(length>>8), byte(length)), api.OK
}

// Pseudo6 is the pseudo header of IPv6.
func Pseudo6(src, dst api.Addr6, proto uint8, length int) ([]byte, api.Errno) {
	if !fits(length) {
		return nil, api.ErrLong
	}
	head := make([]byte, 0, 40)
	head = append(head, src[:]...)
	head = append(head, dst[:]...)
	// The length has four bytes, but MaxPacket leaves the upper two at 0.
	head = append(head, 0, 0, byte(length>>8), byte(length))
	return append(head, 0, 0, 0, proto), api.OK
}

// Update is a checksum behind a change of some bytes.
func Update(was uint16, from, to []byte) (uint16, api.Errno) {
	if !paired(from, to) {
		return 0, api.ErrWords
	}
	n := total(^was, turned(words(from)))
	return ^total(n, words(to)), api.OK
}

// Alike tells whether two checksums say the same.
func Alike(a, b uint16) bool {
	return a == b || a == 0 && b == 0xffff || a == 0xffff && b == 0
}

// Neutral is the word that, in the place of a zero one, leaves a checksum as it was, when some bytes change.
func Neutral(from, to []byte) (uint16, api.Errno) {
	if !paired(from, to) {
		return 0, api.ErrWords
	}
	n := total(0, words(from))
	return total(n, turned(words(to))), api.OK
}

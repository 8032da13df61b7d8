package field

import (
	"unicode/utf8"

	"ferryman/api"
)

// Text is n bits as letters.
func Text(b []byte, at, n int) (string, api.Errno) {
	if !there(b, at, n) {
		return "", api.ErrBits
	}
	letters := make([]byte, n)
	for i := range letters {
		letters[i] = '0' + bit(b, at+i)
	}
	return string(letters), api.OK
}

// Read is letters as bits; with an error the place.
func Read(s string) ([]byte, int, int, api.Errno) {
	n := utf8.RuneCountInString(s)
	if n > api.MaxBitsCat {
		return nil, 0, 0, api.ErrLong
	}
	b := make([]byte, room(n))
	for i, r := range s {
		if r != '0' && r != '1' {
			return nil, 0, i, api.ErrRune
		}
		// Letters of one byte alone stand ahead of it, so the byte's place is the bit's.
		write(b, i, 1, uint64(r-'0'))
	}
	return b, n, 0, api.OK
}

package addr

import "ferryman/api"

// dotted is an IPv4 address's text, as far as it was taken.
type dotted struct {
	ended [3]byte // the numbers behind which a dot stood
	count int     // of them
	open  number
}

func (d *dotted) take(r rune) bool {
	if r != '.' {
		return d.open.take(r, 255)
	}
	if !d.open.begun || d.count == len(d.ended) {
		return false
	}
	d.ended[d.count] = byte(d.open.value)
	d.count++
	d.open = number{}
	return true
}

func (d *dotted) whole() bool { return d.count == len(d.ended) && d.open.begun }

func (d *dotted) addr() api.Addr4 {
	return api.Addr4{d.ended[0], d.ended[1], d.ended[2], byte(d.open.value)}
}

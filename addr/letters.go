package addr

// letters takes a text letter by letter. Each kind of text says no at the first letter with which no text of its kind begins so: the place of that letter is where a text is none.
type letters interface {
	// take tells whether a text of this kind may go on with that letter.
	take(r rune) bool
	// whole tells whether what was taken is a text of this kind.
	whole() bool
}

// read hands a text over, letter by letter; if it is none of that kind, it tells where.
func read(s string, kind letters) (at int, ok bool) {
	for i, r := range s {
		if !kind.take(r) {
			return i, false
		}
	}
	if !kind.whole() {
		return len(s), false
	}
	return 0, true
}

// number is decimal digits without a zero ahead.
type number struct {
	value int
	begun bool
}

// take tells whether a number of at most that much may go on with that letter.
func (n *number) take(r rune, most int) bool {
	if r < '0' || r > '9' || n.begun && n.value == 0 {
		return false
	}
	value := 10*n.value + int(r-'0')
	if value > most {
		return false
	}
	n.value, n.begun = value, true
	return true
}

// prefixed is an address's text, a slash, and a number.
type prefixed struct {
	address letters
	most    int // that the number may be
	slashed bool
	length  number
}

func (p *prefixed) take(r rune) bool {
	if p.slashed {
		return p.length.take(r, p.most)
	}
	if r == '/' && p.address.whole() {
		p.slashed = true
		return true
	}
	return p.address.take(r)
}

func (p *prefixed) whole() bool { return p.length.begun }
